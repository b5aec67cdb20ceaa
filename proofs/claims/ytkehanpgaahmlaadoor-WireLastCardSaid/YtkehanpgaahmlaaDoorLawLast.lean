/-
  WireLast: the last of a number is the last of all that it has; of a number that there is not there is none. No condition.
-/
import Derived.Test.YtkehanpgaahmlaaDoorCards
import Derived.Test.YtkehanpgaahmlaaDoorTie
import Derived.Test.YtkehanpgaahmlaaDoorLaid
import Derived.Test.YtkehanpgaahmlaaDoorEx
import Derived.Test.YtkehanpgaahmlaaDoorLastP
import Derived.Test.YtkehanpgaahmlaaDoorAll
import Derived.Test.YtkehanpgaahmlaaDoorKeepP
import Derived.Test.YtkehanpgaahmlaaDoorOpen
import Derived.Deep.RegionHeld3
import Derived.ChangeSlices
namespace Go.Proofs.YtkehanpgaahmlaaDoor.lawLast
open Go.ChangeShapes Go.WideShapes Go.ChangeAt Go.RowKit
open Go.WideMaps Go.WideElems
open Go.ChangeMaps (open_string shut_string)

theorem Tryd.infoU64 : (Tryd.prog.info? 22).map (fun i => (i.zero, i.size, i.bytes)) = some (some (.int .u64 0), 1, 8) := by kernel_rfl

theorem lenN (num : Int) (n : Nat) : (numberL num n).length ≤ 20 := by
  have h1 := (vnt_len n).2
  have h2 := (vnt_len (num.toNat * 8)).2
  unfold numberL
  split
  · simp [putL]; omega
  · simp

/-- What the drawn region of a round carries on: the number that it reads. -/
def Src (B : Nat) (b : Addr) (g o z : Nat) (w0 w' : World) : Prop :=
  w'.cell? ⟨g, o, none⟩ = some (.int .u16 z) ∧ w'.cell? ⟨0, 0, none⟩ = some (Tryd.S b) ∧ g < w'.heap.size ∧ 0 < w'.heap.size ∧ Below B w0 w'
theorem Src.next {B : Nat} {b : Addr} {g o z : Nat} {w0 wc w' : World} (h : Src B b g o z w0 wc) (hb : Below wc.heap.size wc w') (hB : B ≤ wc.heap.size) : Src B b g o z w0 w' := by
  obtain ⟨h0, h1, h2, h3, h4⟩ := h
  exact ⟨(hb.cell (p := ⟨g, o, none⟩) h2).trans h0, (hb.cell (p := ⟨0, 0, none⟩) h3).trans h1, Nat.lt_of_lt_of_le h2 hb.size, Nat.lt_of_lt_of_le h3 hb.size, h4.trans (hb.mono hB)⟩
theorem Src.drew {B : Nat} {b : Addr} {g o z : Nat} {w0 wc : World} (h : Src B b g o z w0 wc) : Src B b g o z w0 wc.drew := by
  obtain ⟨h0, h1, h2, h3, h4⟩ := h
  exact ⟨h0, h1, h2, h3, below_drewN h4 1⟩
theorem Src.gv {B : Nat} {b : Addr} {g o z : Nat} {w0 wc : World} (h : Src B b g o z w0 wc) : Gv b wc := ⟨h.2.1, h.2.2.2.1⟩

theorem own_some {W : World} {base : Nat} {e : TypeId} {size n c : Nat} {a : Option Addr} {xs : List Value} (h : W.ownsRow base e size (.slice a n c) n xs) (h0 : 0 < n) : ∃ g, a = some ⟨g, 0, none⟩ := by
  rcases h.2 with ⟨_, h1⟩ | ⟨g, cap, cur, hv, _⟩
  · omega
  · cases hv; exact ⟨g, rfl⟩

/-- A row of numbers. -/
def Row64 (W : World) (g : Nat) (zs : List Nat) : Prop := g < W.heap.size ∧ ∀ i (h : i < zs.length), W.cell? ⟨g, i, none⟩ = some (.int .u64 (zs[i] : Nat))
theorem Row64.below {W W' : World} {g : Nat} {zs : List Nat} (h : Row64 W g zs) (hb : Below W.heap.size W W') : Row64 W' g zs :=
  ⟨Nat.lt_of_lt_of_le h.1 hb.size, fun i hi => (hb.cell (p := ⟨g, i, none⟩) h.1).trans (h.2 i hi)⟩
theorem row64_of {W : World} {base g cap n : Nat} {zs : List Nat} (h : W.ownsRow base 22 1 (.slice (some ⟨g, 0, none⟩) n cap) n (zs.map fun z : Nat => Value.int .u64 z)) : Row64 W g zs := by
  have hl := h.1
  rw [List.length_map] at hl
  refine ⟨(h.lt g rfl).2, fun i hi => ?_⟩
  have := h.cellAt i (by omega)
  rw [this, List.getElem?_map, List.getElem?_eq_getElem hi]
  rfl

theorem rowAt_of {W : World} {base g cap n : Nat} {fs : List Fd} (h : W.ownsRow base 29 4 (.slice (some ⟨g, 0, none⟩) n cap) n (fdCells fs)) (hn : fs.length = n) : RowAt W g fs := by
  refine ⟨(h.lt g rfl).2, fun i hi => ?_⟩
  have hc : ∀ j, j < 4 → W.cell? ⟨g, i * 4 + j, none⟩ = fs[i].cells[j]? := fun j hj => by
    rw [h.cellAt (i * 4 + j) (by omega), fdCells_at hi hj]
  exact ⟨hc 0 (by omega), hc 1 (by omega), hc 2 (by omega), hc 3 (by omega)⟩

theorem rowAt_new (W : World) (f : Fd) : RowAt (W.alloc (.cells #[.int .i64 f.num, .int .i64 f.kind, .int .u64 f.n, .string ⟨f.s.toArray⟩] 29)) W.heap.size [f] := by
  refine ⟨by simp, fun i hi => ?_⟩
  obtain rfl : i = 0 := by simp at hi; omega
  have h := Blk.new W #[.int .i64 f.num, .int .i64 f.kind, .int .u64 f.n, .string ⟨f.s.toArray⟩] 29
  exact ⟨h.cell 0, h.cell 1, h.cell 2, h.cell 3⟩

/-- A list of fields, whether there is a row or not. -/
theorem parse_list (t : ByteArray) (b : Addr) (w : World) (hs : t.size ≤ 1099511627776) (hg : Gv b w) (fs : List Fd) (n : Nat) (hn : fs.length = n) (hp : parse t.data.toList = some fs) :
    Calls Tryd.prog 24 #[.string t] w fun e w' => (∃ a0 g cap, e = .returned (.tuple #[.slice a0 n cap, .bool true]) ∧ (0 < n → a0 = some ⟨g, 0, none⟩) ∧ RowAt w' g fs) ∧ Below w.heap.size w w' := by
  subst hn
  refine (parse_any t b w hs hg).mono ?_
  rw [hp]
  rintro e w' ⟨⟨v, rfl, hrow⟩, hb⟩
  refine ⟨?_, hb⟩
  have h2 := hrow
  rcases hrow.2 with ⟨rfl, h0⟩ | ⟨g, cap, cur, rfl, _⟩
  · have : fs = [] := List.eq_nil_of_length_eq_zero h0
    subst this
    exact ⟨none, 0, 0, rfl, fun h => by simp at h, Nat.lt_of_lt_of_le hg.2 hb.size, fun i h => by simp at h⟩
  · exact ⟨_, g, cap, rfl, fun _ => rfl, rowAt_of h2 rfl⟩

theorem eql_same (a k n : Int) (s : ByteArray) (w : World) : (binOp .eql 29 (.agg #[.int .i64 a, .int .i64 k, .int .u64 n, .string s]) (.agg #[.int .i64 a, .int .i64 k, .int .u64 n, .string s])).run Tryd.prog w = .ok (.bool true) w := by
  rw [run_eql_struct, eq_fields]
  simp

set_option maxRecDepth 100000 in
set_option maxHeartbeats 600000 in
theorem walk (L cap : Nat) (a0 : Option Addr) (zs : List Nat) (m : Nat) (b : Addr) (w : World) (hg : Gv b w) (hLz : zs.length = L) (hLm : L ≤ maxLen) (hz : ∀ z ∈ zs, z < 65536)
    (ha : 0 < L → ∃ sb so, a0 = some ⟨sb, so, none⟩ ∧ sb < w.heap.size ∧ ∀ j (h : j < zs.length), w.cell? ⟨sb, so + j, none⟩ = some (.int .u16 (zs[j] : Nat))) :
    Calls Tryd.prog 9 #[.slice a0 L cap, .int .u8 m] w fun e w' => e = .returned (.bool true) ∧ Below w.heap.size w w' := by
  have HLm := Lib.hid hLm; clear hLm
  have HLz := Lib.hid hLz; clear hLz
  have HZ := Lib.hid hz; clear hz
  have HA := Lib.hid ha; clear ha
  obtain ⟨M, hM, hM4⟩ : ∃ M : Nat, (m : Int) % 4 = (M : Int) ∧ M < 4 := ⟨m % 4, by omega, by omega⟩
  obtain ⟨i0, hi, hz0, hz1, hz2⟩ := info_parts Tryd.infoU64
  go_enter Tryd.func9, Tryd.ntmps9
  go_wp2_with fail
  refine (examples_any b _ hg).mono ?_
  rintro e w1 ⟨rfl, hb1⟩
  go_wp2_with fail
  have HM := Lib.hid hM; clear hM
  go_loopw [6, 8, 9] (fun s v i wr => ∃ (k : Nat) (T : ByteArray), k ≤ L ∧ k ≤ 8 ∧ i = .int .i64 k ∧ s = .string T ∧ T.data.toList = numsL (zs.take k) ∧ T.size ≤ 20 * k ∧ wr.ownsRow w.heap.size 22 1 v (wz M (zs.take k)).length ((wz M (zs.take k)).map fun z : Nat => Value.int .u64 z) ∧ Below w.heap.size w wr) (fun _ _ i _ => 8 - (intOf i).toNat)
  case atStart => exact ⟨0, _, by omega, by omega, rfl, rfl, rfl, by decide, World.ownsRow_nil _ _ _ _, hb1⟩
  case round =>
    clear hb1
    obtain ⟨k, T, hk, hk8, rfl, rfl, hT, hTs, hown, hb⟩ := hrel
    have HT := Lib.hid hT; clear hT
    have hwl := wz_len M (zs.take k)
    have hwl2 : (zs.take k).length ≤ k := List.length_take_le _ _
    have hbs := hb.size
    have hgw := hg.below hb
    by_cases hlt : k < L
    · by_cases h8 : k < 8
      · have hkz : k < zs.length := by have := HLz.out; omega
        obtain ⟨sb, so, ea, hsb, hcs⟩ := HA.out (by omega)
        subst ea
        have hck := (hb.cell (p := ⟨sb, so + k, none⟩) hsb).trans (hcs k hkz)
        have hsb' := Nat.lt_of_lt_of_le hsb hb.size
        have HTk := Lib.hid (List.take_succ_eq_append_getElem hkz)
        have hz16 := HZ.out zs[k] (List.getElem_mem _)
        clear hcs
        generalize zs[k] = z at hck HTk hz16
        clear hkz
        obtain ⟨r, hr, hr3⟩ : ∃ r : Nat, (z : Int) % 3 = (r : Int) ∧ r < 3 := ⟨z % 3, by omega, by omega⟩
        obtain ⟨X, hX⟩ : ∃ X : ByteArray, X = ⟨(numberL (1 + (r : Int)) z).toArray⟩ := ⟨_, rfl⟩
        have hXs : X.size ≤ 20 := by rw [hX]; exact lenN _ _
        have HX := Lib.hid hX; clear hX
        have hS : Src w.heap.size b sb (so + k) z w wr := ⟨hck, hgw.1, hsb', hgw.2, hb⟩
        have HS := Lib.hid hS
        have j0 : (0 : Int) ≤ (k : Int) := by omega
        have j1 : (k : Int) < (L : Int) := by omega
        have hz64 : z < 2 ^ 64 := by omega
        have HZ64 := Lib.hid hz64
        clear hz64
        have hcat : ¬ (9223372036854775807 < T.size + X.size) := by omega
        have e0 : (z : Int).tmod 3 = (r : Int) := by rw [Int.tmod_eq_emod_of_nonneg (by omega)]; exact hr
        have e1 : IntKind.i64.wrap (1 + (r : Int)) = 1 + (r : Int) := IntWalk.i64_in _ (by omega)
        have e2 : IntKind.i64.wrap (r : Int) = (r : Int) := IntWalk.i64_in _ (by omega)
        have e3 : IntKind.u64.wrap (z : Int) = (z : Int) := IntWalk.u64_in _ (by omega)
        go_wp2_with fail
        go_region_held3 (fun w' => w'.cell? ⟨sb, so + k, none⟩ = some (.int .u16 z) ∧ w'.cell? ⟨0, 0, none⟩ = some (Tryd.S b) ∧ sb < w'.heap.size ∧ 0 < w'.heap.size ∧ Below w.heap.size w w')
          (first | exact HS.out | exact HS.out.drew | go_keep | (refine Src.next (b := b) (z := z) (wc := wr.drew) HS.out.drew hb5 hbs))
          (first | (go_at_call 19; (with_reducible refine (number_any (1 + (r : Int)) z b _ ?_ HZ64.out).mono ?_); (first | exact HS.out.drew.gv | exact HS.out.gv); rw [← HX.out]; rintro e w5 ⟨rfl, hb5⟩))
        have HS5 : Src w.heap.size b sb (so + k) z w w5 := ‹_›
        obtain ⟨d0, d1, d2, d3, d4⟩ := id HS5
        clear hck
        have hb5s := hb5.size
        have hd4s := d4.size
        have hcell : ∀ O, (w5.alloc O).cell? ⟨sb, so + k, none⟩ = some (.int .u16 z) := fun O => (((Below.refl w5.heap.size w5).alloc (Nat.le_refl _) O).cell (p := ⟨sb, so + k, none⟩) d2).trans d0
        have hown5 : w5.ownsRow w.heap.size 22 1 u8 (wz M (zs.take k)).length ((wz M (zs.take k)).map fun z : Nat => Value.int .u64 z) := ownsRow_later (w := wr.drew) hown hb5
        have e4 : r = z % 3 := by omega
        have E4 := Lib.hid e4
        clear e4
        have hTX : (T ++ X).data.toList = numsL (zs.take (k + 1)) := by
          rw [HTk.out, numsL_snoc, ← E4.out, ← HT.out, HX.out]; simp
        have HTX := Lib.hid hTX
        clear hTX
        have hTXs : (T ++ X).size ≤ 20 * (k + 1) := by rw [ByteArray.size_append]; omega
        have HTXs := Lib.hid hTXs
        clear hTXs hown
        by_cases hrM : r = M
        · subst hrM
          go_wp2_with (at_builtin; go_must (refine wpList_append_own _ rfl _ _ 61 rfl w.heap.size 22 i0 (.int .u64 0) 1 8 Tryd.underlying61 hi hz0 hz1 hz2 rfl (by decide) _ _ _ rfl (hown5.alloc _) ⟨w5.heap.size, 0, none⟩ 1 1 [.int .u64 (z : Int)] rfl rfl (cell_one_new _ _ _) (by simp [Value.oneCell']) (by unfold maxLen; omega) (by omega) (by simp; omega) ?_; intro v' w6 hown6 hgrow _))
          have hgb := (owns_block hown5)
          have hb6 : Below w.heap.size w w6 := (d4.alloc (by omega) _).grown hgrow (by simp; omega) hgb
          go_roundw
          case rel =>
            refine ⟨k + 1, T ++ X, by omega, by omega, by go_num, rfl, HTX.out, HTXs.out, ?_, hb6⟩
            rw [HTk.out, wz_yes _ E4.out.symm, List.length_append, List.map_append]; exact hown6
          case measure => simp [intOf]; omega
        · have hrm : ((1 + (r : Int)) == 1 + (M : Int)) = false := by simp; omega
          go_wp2_with fail
          go_roundw
          case rel =>
            refine ⟨k + 1, T ++ X, by omega, by omega, by go_num, rfl, HTX.out, HTXs.out, ?_, d4⟩
            rw [HTk.out, wz_no _ (by have := E4.out; omega)]; exact hown5
          case measure => simp [intOf]; omega
      · 
        have hd8 : decide ((k : Int) < 8) = false := by simp; omega
        obtain ⟨ys, hys⟩ : ∃ ys, zs.take k = ys := ⟨_, rfl⟩
        have hyz : ∀ y ∈ ys, y < 2 ^ 64 := fun y hy => by
          have h1 := HZ.out y (List.mem_of_mem_take (hys ▸ hy)); omega
        have hyl : ys.length ≤ 8 := by rw [← hys]; omega
        rw [hys] at hown hwl
        have hpT : parse T.data.toList = some (ys.map fdz) := by rw [HT.out, hys]; exact parse_nums ys hyz
        have HPT := Lib.hid hpT
        have HWL := Lib.hid (withL_nums M ys)
        clear hpT hyz hys HT
        obtain ⟨Q, hQ⟩ : ∃ Q, wz M ys = Q := ⟨_, rfl⟩
        rw [hQ] at hown HWL hwl
        clear hQ
        obtain ⟨q, hq⟩ : ∃ q, Q.length = q := ⟨_, rfl⟩
        rw [hq] at hown hwl
        obtain ⟨l, hl⟩ : ∃ l, ys.length = l := ⟨_, rfl⟩
        rw [hl] at hwl hyl
        have HQ := Lib.hid hq; clear hq
        have HYL := Lib.hid hl; clear hl
        obtain ⟨a3, c3, rfl⟩ := owns_slice hown
        have HO := Lib.hid hown; clear hown
        have HB := Lib.hid hb; clear hb
        have HTs : T.size ≤ 160 := by omega
        go_wp2_with fail
        refine (parse_list T b _ (by omega) hgw (ys.map fdz) l (by rw [List.length_map]; exact HYL.out) HPT.out).mono ?_
        rintro e w5 ⟨⟨a1, g1, c1, rfl, ha1, r1⟩, hb5⟩
        have HA1 := Lib.hid ha1; clear ha1
        have R1 := Lib.hid r1; clear r1
        have HO5 := Lib.hid (ownsRow_later HO.out hb5)
        have HB5 := Lib.hid (HB.out.trans (hb5.mono HB.out.size))
        clear hb5 HO HB
        go_wp2_with fail
        refine (callsIn_wide.1 (all0_in g1 c1 l a1 HA1.out (1 + (M : Int)) (ys.map fdz) (by rw [List.length_map]; exact HYL.out) (by omega) _ R1.out)).mono ?_
        rw [HWL.out]
        rintro e w6 ⟨⟨v6, rfl, ho6⟩, hb6⟩
        rw [List.length_map, HQ.out] at ho6
        obtain ⟨a2, c2, rfl⟩ := owns_slice ho6
        have R6 := Lib.hid (R1.out.below hb6)
        have HO6 := Lib.hid (ownsRow_later HO5.out hb6)
        have HB6 := Lib.hid (HB5.out.trans (hb6.mono HB5.out.size))
        have HR6 := Lib.hid ho6
        clear hb6 ho6 HO5 HB5 R1
        go_wp2_with fail
        refine (callsIn_wide.1 (last0_in g1 c1 l a1 HA1.out (1 + (M : Int)) (ys.map fdz) (by rw [List.length_map]; exact HYL.out) (by omega) _ R6.out)).mono ?_
        rw [HWL.out]
        by_cases hq0 : q = 0
        · subst hq0
          have hQ0 : Q = [] := List.eq_nil_of_length_eq_zero HQ.out
          have hlc : lastCells (Q.map fdz) = #[.int .i64 0, .int .i64 0, .int .u64 0, .string ⟨#[]⟩] := by rw [hQ0]; rfl
          have hem : (!(Q.map fdz).isEmpty) = false := by rw [hQ0]; rfl
          rw [hlc, hem]
          clear hlc hem hQ0
          rintro e w7 ⟨rfl, hb7⟩
          have HB7 := Lib.hid (HB6.out.trans (hb7.mono HB6.out.size))
          clear hb7
          go_wp2_with fail
          go_loop [15] (fun i => i = .int .i64 0) (fun _ => 0)
          case atStart => rfl
          case round =>
            obtain rfl := hrel
            go_wp2_with fail
            go_quiet (fail)
            go_wp2_with fail
            go_ret
            exact ⟨rfl, by first | exact below_drewN (HB7.out.alloc HB7.out.size _) _ | exact below_drewN ((HB7.out.alloc HB7.out.size _).setCell (by have := HB7.out.size; simp; omega) _) _⟩
        · obtain ⟨q', rfl⟩ : ∃ q', q = q' + 1 := ⟨q - 1, by omega⟩
          obtain ⟨Q', zl, hQs⟩ : ∃ Q' zl, Q = Q' ++ [zl] := by
            have hne : Q ≠ [] := fun h => by have := HQ.out; rw [h] at this; simp at this
            exact ⟨_, _, (List.dropLast_concat_getLast hne).symm⟩
          have hQl : Q'.length = q' := by have := HQ.out; rw [hQs] at this; simpa using this
          obtain ⟨f, hf⟩ : ∃ f, fdz zl = f := ⟨_, rfl⟩
          have hlc : lastCells (Q.map fdz) = #[.int .i64 f.num, .int .i64 f.kind, .int .u64 f.n, .string ⟨f.s.toArray⟩] := by rw [hQs, List.map_append, List.map_cons, List.map_nil, lastCells_snoc, hf]
          have hem : (!(Q.map fdz).isEmpty) = true := by rw [hQs]; simp
          have hfl : ∃ h : q' < (Q.map fdz).length, (Q.map fdz)[q'] = f := ⟨by rw [List.length_map, HQ.out]; omega, by simp [hQs, hQl, hf]⟩
          have HFL := Lib.hid hfl
          rw [hlc, hem]
          clear hlc hem hQs hQl hf hfl
          rintro e w7 ⟨rfl, hb7⟩
          have HB7 := Lib.hid (HB6.out.trans (hb7.mono HB6.out.size))
          obtain ⟨g2, rfl⟩ := own_some HR6.out (by omega)
          obtain ⟨g3, rfl⟩ := own_some HO6.out (by omega)
          have R2 := Lib.hid ((rowAt_of HR6.out (by rw [List.length_map]; exact HQ.out)).below hb7)
          have R3 := Lib.hid ((row64_of HO6.out).below hb7)
          clear hb7 HR6 HO6 HA1 R6 HWL
          go_wp2_with fail
          have RX := Lib.hid (rowAt_new w7 f)
          have R2 := Lib.hid (R2.out.below ((Below.refl w7.heap.size w7).alloc (Nat.le_refl _) (.cells #[.int .i64 f.num, .int .i64 f.kind, .int .u64 f.n, .string ⟨f.s.toArray⟩] 29)))
          have R3 := Lib.hid (R3.out.below ((Below.refl w7.heap.size w7).alloc (Nat.le_refl _) (.cells #[.int .i64 f.num, .int .i64 f.kind, .int .u64 f.n, .string ⟨f.s.toArray⟩] 29)))
          have HB8 := Lib.hid (HB7.out.alloc HB7.out.size (.cells #[.int .i64 f.num, .int .i64 f.kind, .int .u64 f.n, .string ⟨f.s.toArray⟩] 29))
          go_loopw [15] (fun i wr => ∃ (κ : Nat), i = .int .i64 κ ∧ κ ≤ q' + 1 ∧ RowAt wr g2 (Q.map fdz) ∧ Row64 wr g3 Q ∧ RowAt wr w7.heap.size [f] ∧ Below w.heap.size w wr) (fun i _ => q' + 1 - (intOf i).toNat)
          case atStart => exact ⟨0, rfl, Nat.zero_le _, R2.out, R3.out, RX.out, HB8.out⟩
          case round =>
            rename_i wz'
            obtain ⟨κ, rfl, hκ, r2, r3, rx, hBz⟩ := hrel
            have RX := Lib.hid rx; clear rx
            have R2 := Lib.hid r2; clear r2
            have R3 := Lib.hid r3; clear r3
            have HBz := Lib.hid hBz; clear hBz
            by_cases hκq : κ < q' + 1
            · have hκQ : κ < Q.length := by have := HQ.out; omega
              have hκF : κ < (Q.map fdz).length := by rw [List.length_map]; exact hκQ
              have p2 := (R2.out.2 κ hκF).2.2.1
              have p3 := R3.out.2 κ hκQ
              rw [List.getElem_map] at p2
              simp only [fdz] at p2
              generalize Q[κ] = z at p2 p3
              clear hκQ hκF
              have b0 : (0 : Int) ≤ (κ : Int) := by omega
              have b1 : (κ : Int) < (q' : Int) + 1 := by omega
              go_wp2
              go_quiet (fail)
              go_wp2
              exact ⟨⟨κ + 1, by go_num, by omega, R2.out.below (below_drewN' _), R3.out.below (below_drewN' _), RX.out.below (below_drewN' _), below_drewN HBz.out _⟩, by simp [intOf]; omega⟩
            · obtain rfl : κ = q' + 1 := by omega
              obtain ⟨hl1, hl2⟩ := HFL.out
              obtain ⟨x0, x1, x2, x3⟩ := RX.out.2 0 (by simp)
              obtain ⟨p0, p1, p2, p3⟩ := R2.out.2 q' hl1
              rw [hl2] at p0 p1 p2 p3
              simp only [List.getElem_cons_zero, Nat.zero_mul, Nat.zero_add] at x0 x1 x2 x3
              clear hl2 hl1
              have hes := eql_same (f.num : Int) (f.kind : Int) (f.n : Int) ⟨f.s.toArray⟩
              have hgd := guard_fd
              have b0 : (0 : Int) ≤ (q' : Int) := by omega
              have b1 : (q' : Int) < (q' : Int) + 1 := by omega
              have b2 : (0 : Int) < (q' : Int) + 1 := by omega
              have e1 : IntKind.i64.wrap ((q' : Int) + 1 - 1) = (q' : Int) := by rw [show (q' : Int) + 1 - 1 = (q' : Int) by omega]; exact IntWalk.i64_in _ (by omega)
              go_wp2
              go_quiet (fail)
              go_wp2
              go_ret
              exact ⟨rfl, below_drewN HBz.out _⟩
    · 
      obtain ⟨ys, hys⟩ : ∃ ys, zs.take k = ys := ⟨_, rfl⟩
      have hyz : ∀ y ∈ ys, y < 2 ^ 64 := fun y hy => by
        have h1 := HZ.out y (List.mem_of_mem_take (hys ▸ hy)); omega
      have hyl : ys.length ≤ 8 := by rw [← hys]; omega
      rw [hys] at hown hwl
      have hpT : parse T.data.toList = some (ys.map fdz) := by rw [HT.out, hys]; exact parse_nums ys hyz
      have HPT := Lib.hid hpT
      have HWL := Lib.hid (withL_nums M ys)
      clear hpT hyz hys HT
      obtain ⟨Q, hQ⟩ : ∃ Q, wz M ys = Q := ⟨_, rfl⟩
      rw [hQ] at hown HWL hwl
      clear hQ
      obtain ⟨q, hq⟩ : ∃ q, Q.length = q := ⟨_, rfl⟩
      rw [hq] at hown hwl
      obtain ⟨l, hl⟩ : ∃ l, ys.length = l := ⟨_, rfl⟩
      rw [hl] at hwl hyl
      have HQ := Lib.hid hq; clear hq
      have HYL := Lib.hid hl; clear hl
      obtain ⟨a3, c3, rfl⟩ := owns_slice hown
      have HO := Lib.hid hown; clear hown
      have HB := Lib.hid hb; clear hb
      have HTs : T.size ≤ 160 := by omega
      go_wp2_with fail
      refine (parse_list T b _ (by omega) hgw (ys.map fdz) l (by rw [List.length_map]; exact HYL.out) HPT.out).mono ?_
      rintro e w5 ⟨⟨a1, g1, c1, rfl, ha1, r1⟩, hb5⟩
      have HA1 := Lib.hid ha1; clear ha1
      have R1 := Lib.hid r1; clear r1
      have HO5 := Lib.hid (ownsRow_later HO.out hb5)
      have HB5 := Lib.hid (HB.out.trans (hb5.mono HB.out.size))
      clear hb5 HO HB
      go_wp2_with fail
      refine (callsIn_wide.1 (all0_in g1 c1 l a1 HA1.out (1 + (M : Int)) (ys.map fdz) (by rw [List.length_map]; exact HYL.out) (by omega) _ R1.out)).mono ?_
      rw [HWL.out]
      rintro e w6 ⟨⟨v6, rfl, ho6⟩, hb6⟩
      rw [List.length_map, HQ.out] at ho6
      obtain ⟨a2, c2, rfl⟩ := owns_slice ho6
      have R6 := Lib.hid (R1.out.below hb6)
      have HO6 := Lib.hid (ownsRow_later HO5.out hb6)
      have HB6 := Lib.hid (HB5.out.trans (hb6.mono HB5.out.size))
      have HR6 := Lib.hid ho6
      clear hb6 ho6 HO5 HB5 R1
      go_wp2_with fail
      refine (callsIn_wide.1 (last0_in g1 c1 l a1 HA1.out (1 + (M : Int)) (ys.map fdz) (by rw [List.length_map]; exact HYL.out) (by omega) _ R6.out)).mono ?_
      rw [HWL.out]
      by_cases hq0 : q = 0
      · subst hq0
        have hQ0 : Q = [] := List.eq_nil_of_length_eq_zero HQ.out
        have hlc : lastCells (Q.map fdz) = #[.int .i64 0, .int .i64 0, .int .u64 0, .string ⟨#[]⟩] := by rw [hQ0]; rfl
        have hem : (!(Q.map fdz).isEmpty) = false := by rw [hQ0]; rfl
        rw [hlc, hem]
        clear hlc hem hQ0
        rintro e w7 ⟨rfl, hb7⟩
        have HB7 := Lib.hid (HB6.out.trans (hb7.mono HB6.out.size))
        clear hb7
        go_wp2_with fail
        go_loop [15] (fun i => i = .int .i64 0) (fun _ => 0)
        case atStart => rfl
        case round =>
          obtain rfl := hrel
          go_wp2_with fail
          go_quiet (fail)
          go_wp2_with fail
          go_ret
          exact ⟨rfl, by first | exact below_drewN (HB7.out.alloc HB7.out.size _) _ | exact below_drewN ((HB7.out.alloc HB7.out.size _).setCell (by have := HB7.out.size; simp; omega) _) _⟩
      · obtain ⟨q', rfl⟩ : ∃ q', q = q' + 1 := ⟨q - 1, by omega⟩
        obtain ⟨Q', zl, hQs⟩ : ∃ Q' zl, Q = Q' ++ [zl] := by
          have hne : Q ≠ [] := fun h => by have := HQ.out; rw [h] at this; simp at this
          exact ⟨_, _, (List.dropLast_concat_getLast hne).symm⟩
        have hQl : Q'.length = q' := by have := HQ.out; rw [hQs] at this; simpa using this
        obtain ⟨f, hf⟩ : ∃ f, fdz zl = f := ⟨_, rfl⟩
        have hlc : lastCells (Q.map fdz) = #[.int .i64 f.num, .int .i64 f.kind, .int .u64 f.n, .string ⟨f.s.toArray⟩] := by rw [hQs, List.map_append, List.map_cons, List.map_nil, lastCells_snoc, hf]
        have hem : (!(Q.map fdz).isEmpty) = true := by rw [hQs]; simp
        have hfl : ∃ h : q' < (Q.map fdz).length, (Q.map fdz)[q'] = f := ⟨by rw [List.length_map, HQ.out]; omega, by simp [hQs, hQl, hf]⟩
        have HFL := Lib.hid hfl
        rw [hlc, hem]
        clear hlc hem hQs hQl hf hfl
        rintro e w7 ⟨rfl, hb7⟩
        have HB7 := Lib.hid (HB6.out.trans (hb7.mono HB6.out.size))
        obtain ⟨g2, rfl⟩ := own_some HR6.out (by omega)
        obtain ⟨g3, rfl⟩ := own_some HO6.out (by omega)
        have R2 := Lib.hid ((rowAt_of HR6.out (by rw [List.length_map]; exact HQ.out)).below hb7)
        have R3 := Lib.hid ((row64_of HO6.out).below hb7)
        clear hb7 HR6 HO6 HA1 R6 HWL
        go_wp2_with fail
        have RX := Lib.hid (rowAt_new w7 f)
        have R2 := Lib.hid (R2.out.below ((Below.refl w7.heap.size w7).alloc (Nat.le_refl _) (.cells #[.int .i64 f.num, .int .i64 f.kind, .int .u64 f.n, .string ⟨f.s.toArray⟩] 29)))
        have R3 := Lib.hid (R3.out.below ((Below.refl w7.heap.size w7).alloc (Nat.le_refl _) (.cells #[.int .i64 f.num, .int .i64 f.kind, .int .u64 f.n, .string ⟨f.s.toArray⟩] 29)))
        have HB8 := Lib.hid (HB7.out.alloc HB7.out.size (.cells #[.int .i64 f.num, .int .i64 f.kind, .int .u64 f.n, .string ⟨f.s.toArray⟩] 29))
        go_loopw [15] (fun i wr => ∃ (κ : Nat), i = .int .i64 κ ∧ κ ≤ q' + 1 ∧ RowAt wr g2 (Q.map fdz) ∧ Row64 wr g3 Q ∧ RowAt wr w7.heap.size [f] ∧ Below w.heap.size w wr) (fun i _ => q' + 1 - (intOf i).toNat)
        case atStart => exact ⟨0, rfl, Nat.zero_le _, R2.out, R3.out, RX.out, HB8.out⟩
        case round =>
          rename_i wz'
          obtain ⟨κ, rfl, hκ, r2, r3, rx, hBz⟩ := hrel
          have RX := Lib.hid rx; clear rx
          have R2 := Lib.hid r2; clear r2
          have R3 := Lib.hid r3; clear r3
          have HBz := Lib.hid hBz; clear hBz
          by_cases hκq : κ < q' + 1
          · have hκQ : κ < Q.length := by have := HQ.out; omega
            have hκF : κ < (Q.map fdz).length := by rw [List.length_map]; exact hκQ
            have p2 := (R2.out.2 κ hκF).2.2.1
            have p3 := R3.out.2 κ hκQ
            rw [List.getElem_map] at p2
            simp only [fdz] at p2
            generalize Q[κ] = z at p2 p3
            clear hκQ hκF
            have b0 : (0 : Int) ≤ (κ : Int) := by omega
            have b1 : (κ : Int) < (q' : Int) + 1 := by omega
            go_wp2
            go_quiet (fail)
            go_wp2
            exact ⟨⟨κ + 1, by go_num, by omega, R2.out.below (below_drewN' _), R3.out.below (below_drewN' _), RX.out.below (below_drewN' _), below_drewN HBz.out _⟩, by simp [intOf]; omega⟩
          · obtain rfl : κ = q' + 1 := by omega
            obtain ⟨hl1, hl2⟩ := HFL.out
            obtain ⟨x0, x1, x2, x3⟩ := RX.out.2 0 (by simp)
            obtain ⟨p0, p1, p2, p3⟩ := R2.out.2 q' hl1
            rw [hl2] at p0 p1 p2 p3
            simp only [List.getElem_cons_zero, Nat.zero_mul, Nat.zero_add] at x0 x1 x2 x3
            clear hl2 hl1
            have hes := eql_same (f.num : Int) (f.kind : Int) (f.n : Int) ⟨f.s.toArray⟩
            have hgd := guard_fd
            have b0 : (0 : Int) ≤ (q' : Int) := by omega
            have b1 : (q' : Int) < (q' : Int) + 1 := by omega
            have b2 : (0 : Int) < (q' : Int) + 1 := by omega
            have e1 : IntKind.i64.wrap ((q' : Int) + 1 - 1) = (q' : Int) := by rw [show (q' : Int) + 1 - 1 = (q' : Int) by omega]; exact IntWalk.i64_in _ (by omega)
            go_wp2
            go_quiet (fail)
            go_wp2
            go_ret
            exact ⟨rfl, below_drewN HBz.out _⟩

set_option maxRecDepth 100000 in
theorem contract (H : Type) (enc : TypeId × Value → H) (W : World) (base : Nat) (args : Array Value) (ds gs : List (DataW H)) (before : List MemPlace)
    (hval : ∀ (j : Nat) t v, Tryd.f9.params[j]? = some t → args[j]? = some v → Value.okWide Tryd.prog W .any base t v)
    (hW : DataW.Whole enc Tryd.prog Tryd.f9.params.toList Rows.wireLastSpec.vars false W args.toList ds gs before) (hL : laidMetH Tryd.prog Rows.wireLastRow.laid W) :
    Calls Tryd.prog 9 args W fun e W' => ∃ v, e = .returned v ∧ Rows.wireLastSpec.post enc Tryd.prog Tryd.f9 false true false false W args v W' := by
  have hW' := hW
  obtain ⟨p, q, hA0, hV, rfl, hfz, hnd⟩ := hW
  have hA : DataW.TrodAll enc Tryd.prog W 0 (fun _ => true) true Tryd.f9.params.toList args.toList ds p := hA0
  have HK := Lib.hid (fun (W' : World) (hb : Below W.heap.size W W') (sp : Nat → Bool) (hs : ∀ x ∈ p, sp x.block = true) => trodAll_keep (sp := sp) Tryd.kids Tryd.sliceCells hb (by rw [Tryd.params9]; decide +kernel) hA hs)
  clear hA0
  rw [Tryd.params9] at hA hval
  obtain ⟨v0, vs0, d0, ds0, p0, q0, hargs, rfl, rfl, h0, r0⟩ := trodAll_cons hA
  obtain ⟨v1, vs1, d1, ds1, p1, q1, rfl, rfl, rfl, h1, r1⟩ := trodAll_cons r0
  obtain ⟨rfl, rfl, rfl⟩ := trodAll_nil r1
  obtain rfl : args = #[v0, v1] := Array.ext' hargs
  obtain ⟨rfl, rfl⟩ := trodVars_none hV
  simp only [List.append_nil] at hW' HK
  obtain ⟨b, hg⟩ := gv_of_laid hL
  obtain ⟨a0, l0, c0, rfl⟩ := okWide_slice Tryd.underlying60 (hval 0 60 v0 rfl rfl)
  obtain ⟨zs, z1, z2, z3, z4⟩ := nats_of Tryd.underlying60 Tryd.underlying56 (by kernel_rfl) (by decide) h0
  obtain ⟨x1, rfl, rfl, rfl, wx1⟩ := open_int Tryd.underlying5 (hval 1 5 v1 rfl rfl) h1
  have bx1 := bounds_u8 wx1
  obtain ⟨n1, rfl⟩ := Int.eq_ofNat_of_zero_le bx1.1
  refine (walk l0 c0 a0 zs n1 b W hg z1 z2 (fun z hz => by have := z4 z hz; simp [IntKind.max, IntKind.signed, IntKind.bits] at this; omega) z3).mono fun e W' ⟨he, hb⟩ => ?_
  subst he
  exact ⟨_, rfl, post_of_below (pv := []) hW' (fun _ _ _ => trodAll_cons_mk (shut_bool Tryd.underlying4 _) trodAll_mk0) (fun sp hs => HK.out W' hb sp hs) (fun _ _ => rfl) (List.append_nil _).symm
    hb (ok_one (by kernel_rfl) rfl (okWide_bool_mk Tryd.underlying4 _))⟩

theorem reads (os : Os) {H : Type} (enc : TypeId × Value → H) : ∃ places, DataW.whole enc Tryd.prog ((laidWorld os).forCall (fun _ _ => 0) ⟨#[], #[.slice none 0 0, .int .u8 0], []⟩).memory Tryd.f9.params.toList Rows.wireLastSpec.vars false (#[.slice none 0 0, .int .u8 0] : Array Value).toList 8 = some ([.nil, .lit (.int .u8 0)], [], places) :=
  ⟨[], by kernel_rfl⟩

set_option maxRecDepth 100000 in
theorem lifted (os : Os) (started : os.Started) (H : Type) (enc : TypeId × Value → H) (F : Stop.Interp) :
    ReturnsInHanded {} Tryd.checked os 9 .any ((OpenSpec.ofChange Rows.wireLastSpec).preRow enc Tryd.prog Tryd.f9 Rows.wireLastRow.domain false Rows.wireLastRow.laid) (((OpenSpec.ofChange Rows.wireLastSpec).at F).post enc Tryd.prog Tryd.f9 false true false false) := by
  obtain ⟨places, hx⟩ := reads os enc
  refine returnsInHanded_of_row (C := Tryd.checked) (s := (OpenSpec.ofChange Rows.wireLastSpec)) Tryd.own started (by kernel_rfl) Tryd.func9
    (witness_row_at (enc := enc) (C := Tryd.checked) false (laidWorld os) #[.slice none 0 0, .int .u8 0] rfl (by kernel_rfl) (by kernel_rfl) (by kernel_rfl)
      (OpenSpec.preRow_of_cond 8 hx (by kernel_rfl) (fun k hk => by cases hk) (by kernel_rfl) (laid_met os _))) ?_
  intro W base args ds gs before hval hW _ _ _ hL _ _
  exact contract H enc W base args ds gs before hval hW hL

theorem said : Rows.WireLastSaid :=
  OpenClaim.holds_of_cond 9 Tryd.f9 rfl rfl rfl rfl rfl rfl rfl ⟨rfl, rfl, rfl, rfl, rfl⟩ rfl rfl rfl rfl rfl (by kernel_rfl) Tryd.func9 (by kernel_rfl)
    (of_decide_eq_true (by kernel_rfl)) (by unfold Func.isWrapper; first | (rw [if_pos (by decide +kernel)]; kernel_rfl) | (rw [if_neg (by decide +kernel)]; exact ⟨rfl, rfl⟩))
    (fun os started H enc _ F => by rw [OpenClaim.pre_eq_preRow]; exact lifted os started H enc F)

theorem plain (f : FuncId) (fn : Func) (hf : Tryd.pinned.checked.prog.funcNamed "noria/norialaw01.WireLast" = some f) (hfn : Tryd.pinned.checked.prog.funcs[f]? = some fn) :
    true = Tryd.pinned.checked.prog.looks [] ∧ ∀ (j : Nat) t, fn.params[j]? = some t → Tryd.pinned.checked.prog.wantsStandIn t = false := by
  obtain rfl : f = 9 := Option.some.inj ((show Tryd.prog.funcNamed "noria/norialaw01.WireLast" = some 9 by kernel_rfl).symm.trans hf) |>.symm
  obtain rfl : fn = Tryd.f9 := (Option.some.inj (Tryd.func9.symm.trans hfn)).symm
  refine ⟨by kernel_rfl, fun j t ht => ?_⟩
  rw [Tryd.params9] at ht
  have hm := Array.mem_of_getElem? ht
  simp only [List.mem_toArray, List.mem_cons, List.not_mem_nil, or_false] at hm
  rcases hm with rfl | rfl
  · exact (show Tryd.prog.wantsStandIn 60 = false by kernel_rfl)
  · exact (show Tryd.prog.wantsStandIn 5 = false by kernel_rfl)

theorem card : Rows.WireLastCardSaid :=
  Claim7.holds_tied_plain_at .later [] _ _ _ _ said (fun _ h => by cases h) (by kernel_rfl) (fun _ h => by cases h) wireLast_row_tie rfl ⟨rfl, rfl⟩ (by kernel_rfl) rfl plain (by kernel_rfl)
end Go.Proofs.YtkehanpgaahmlaaDoor.lawLast
