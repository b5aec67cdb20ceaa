/- merge: the law's own: texts, sets, refSet, want. -/
import Derived.Test.YtkjfafnnnkjoeaaGreatDoorMgDeed
import Derived.Test.YtkjfafnnnkjoeaaGreatDoorMgRM
import Derived.Test.YtkjfafnnnkjoeaaGreatDoorMgOps
import Derived.Test.YtkjfafnnnkjoeaaGreatDoorMgEx
namespace Go.Proofs.YtkjfafnnnkjoeaaGreatDoor
open Go.RowKit Go.Lib

set_option maxRecDepth 100000 in
set_option maxHeartbeats 2000000 in
theorem texts14_any {a1 a2 : Option Addr} {c1 c2 : Nat} {l : List (List UInt8)} {w : World} (h1 : TsAt w (.slice a1 l.length c1) l) (h2 : TsAt w (.slice a2 l.length c2) l) :
    Calls Tryz.prog 22 #[.slice a1 l.length c1, .slice a2 l.length c2] w fun e w' => e = .returned (.bool true) ∧ Below w.heap.size w w' := by
  obtain ⟨a', c', e', m1, m2, q1⟩ := h1.out
  injection e' with e1 _ e3
  subst e1; subst e3
  obtain ⟨a', c', e', _, _, q2⟩ := h2.out
  injection e' with e1 _ e3
  subst e1; subst e3
  have Q1 := Lib.hid q1
  have Q2 := Lib.hid q2
  unfold maxLen at m2
  have hn63 : (l.length : Int) ≤ 9223372036854775807 := by omega
  clear h1 h2 q1 q2
  go_enter Tryz.func22, Tryz.ntmps22
  go_wp2_with fail
  go_loopw [5] (fun i wr => ∃ j : Nat, j ≤ l.length ∧ i = .int .i64 j ∧ Below w.heap.size w wr) (fun i _ => l.length - (RowKit.intOf i).toNat)
  case atStart => exact ⟨0, Nat.zero_le _, rfl, Below.refl _ _⟩
  case round =>
    obtain ⟨j, hj, rfl, hb⟩ := hrel
    by_cases hlt : j < l.length
    · obtain ⟨b, off, rfl, hbl, hc⟩ := Q1.out j hlt
      obtain ⟨b', off', rfl, hbl', hc'⟩ := Q2.out j hlt
      obtain ⟨y, hy⟩ : ∃ y, l[j] = y := ⟨_, rfl⟩
      rw [hy] at hc hc'
      have d1 : wr.cell? ⟨b, off + j, none⟩ = some (.string ⟨y.toArray⟩) := (hb.cell (p := ⟨b, _, none⟩) hbl).trans hc
      have d2 : wr.cell? ⟨b', off' + j, none⟩ = some (.string ⟨y.toArray⟩) := (hb.cell (p := ⟨b', _, none⟩) hbl').trans hc'
      have b0 : (0 : Int) ≤ (j : Int) := by omega
      have b1 : (j : Int) < (l.length : Int) := by omega
      have HB := Lib.hid hb
      clear hc hc' hy hb
      go_wp2_with fail
      go_region
      all_goals
        go_wp2_with fail
        go_roundw
        case rel => exact ⟨j + 1, by omega, by go_num, HB.out.drew⟩
        case measure => simp [RowKit.intOf]; omega
    · have b1 : ¬ (j : Int) < (l.length : Int) := by omega
      go_wp2_with fail
      go_ret
      exact ⟨rfl, hb⟩
set_option maxRecDepth 100000 in
theorem sets14_any {sa : Bool} {a1 a2 : Option Addr} {c1 c2 : Nat} {l : List (List UInt8)} {w : World} (h1 : TsAt w (.slice a1 l.length c1) l) (h2 : TsAt w (.slice a2 l.length c2) l) :
    Calls Tryz.prog 12 #[.agg #[.bool sa, .slice a1 l.length c1], .agg #[.bool sa, .slice a2 l.length c2]] w fun e w' => e = .returned (.bool true) ∧ Below w.heap.size w w' := by
  obtain ⟨w1, hw1, hb1, p1⟩ := alloc_new w #[.bool sa, .slice a1 l.length c1] 41
  obtain ⟨w2, hw2, hb2, p2⟩ := alloc_new w1 #[.bool sa, .slice a2 l.length c2] 29
  have p1' := p1.later hb2
  have T1 := (h1.later hb1).later hb2
  have T2 := (h2.later hb1).later hb2
  have B2 : Base w w2 := hb1.trans (hb2.mono hb1.size)
  have c0 := p1'.cell 0
  have c1' := p1'.cell 1
  have c2' := p2.cell 0
  have c3 := p2.cell 1
  simp only [List.getElem?_toArray, List.getElem?_cons_zero, List.getElem?_cons_succ] at c0 c1' c2' c3
  have HT := Lib.hid (And.intro T1 (And.intro T2 (And.intro B2 (And.intro p1' p2))))
  clear h1 h2 hb1 hb2 p1 p2 p1' T1 T2 B2
  go_enter Tryz.func12, Tryz.ntmps12
  go_wp2_with fail
  refine (texts14_any HT.out.1 HT.out.2.1).mono ?_
  rintro e w3 ⟨rfl, hb3⟩
  have B3 := HT.out.2.2.1.later hb3
  have P1 := HT.out.2.2.2.1.later hb3
  have P2 := HT.out.2.2.2.2.later hb3
  have d0 := P1.cell 0
  have d2 := P2.cell 0
  simp only [List.getElem?_toArray, List.getElem?_cons_zero] at d0 d2
  go_wp2_with fail
  go_ret
  exact ⟨rfl, B3⟩
set_option maxRecDepth 100000 in
theorem refSet_any {sa : Bool} {a : Option Addr} {n c : Nat} (w : World) :
    Calls Tryz.prog 11 #[.agg #[.bool sa, .slice a n c]] w fun e w' => e = .returned (.agg #[.bool sa, .slice a n c]) ∧ Below w.heap.size w w' := by
  obtain ⟨w1, hw1, hb1, p1⟩ := alloc_new w #[.bool sa, .slice a n c] 41
  obtain ⟨w2, hw2, hb2, p2⟩ := alloc_new w1 #[.bool false, .slice none 0 0] 29
  have HZ := Lib.hid (show w.heap.size + 1 = w1.heap.size by rw [← hw1]; simp)
  have HW := Lib.hid (And.intro hw1 hw2)
  have p1' := p1.later hb2
  have c0 : w2.cell? ⟨w.heap.size, 0, none⟩ = some (.bool sa) := p1'.cell 0
  have c1 : w2.cell? ⟨w.heap.size, 1, none⟩ = some (.slice a n c) := p1'.cell 1
  have r0 : w2.cell? ⟨w1.heap.size, 0, none⟩ = some (.bool false) := p2.cell 0
  have r1 : w2.cell? ⟨w1.heap.size, 1, none⟩ = some (.slice none 0 0) := p2.cell 1
  have z0 := p2.frozen 0
  have z1 := p2.frozen 1
  have HBB := Lib.hid (below_set2 (hb1.trans (hb2.mono hb1.size)) (R := w1.heap.size) hb1.size (.bool sa) (.slice a n c))
  have HT := Lib.hid (two_cells (.bool sa) (.slice a n c) r0 r1)
  have hne : ¬ w.heap.size = w1.heap.size := by have := p1.lt; omega
  clear hw1 hw2 hb1 hb2 p1 p1' p2
  go_enter Tryz.func11, Tryz.ntmps11
  go_wp2_with (rw [HW.out.1, HW.out.2, HZ.out])
  obtain ⟨t0, t1⟩ := HT.out
  exact bodyPost_ret (v := .agg #[.bool sa, .slice a n c]) (by simp [results, Tryz.results11, go_sem, t0, t1]) rfl ⟨rfl, HBB.out⟩

/-- A name of many. -/
def mN (c i : Nat) : List UInt8 := [109, UInt8.ofNat (97 + i / 9), UInt8.ofNat (97 + i % 9), UInt8.ofNat (97 + c)]
def mL (l : List (List UInt8)) (c k : Nat) : List (List UInt8) := l ++ (List.range k).map (mN c)
theorem mL_next (l : List (List UInt8)) (c k : Nat) : mL l c (k + 1) = mL l c k ++ [mN c k] := by unfold mL; rw [List.range_succ, List.map_append, List.append_assoc]; rfl
theorem mL_len (l : List (List UInt8)) (c k : Nat) : (mL l c k).length = l.length + k := by unfold mL; simp
/-- What a Deed wants, as names. -/
def wantL (u : Dd) : List (List UInt8) := mL (nmcL u.bs 20) (u.nm % 9) (if 230 < u.many then u.many - 180 else 0)
theorem wantL_len (u : Dd) (h : u.many < 256) : (wantL u).length ≤ 96 := by
  unfold wantL
  rw [mL_len]
  have := nmc_len u.bs 20
  split <;> omega
theorem wantL_short (u : Dd) : ∀ x ∈ wantL u, x.length ≤ 4 := by
  intro x hx
  unfold wantL mL at hx
  rcases List.mem_append.1 hx with h | h
  · unfold nmcL at h
    obtain ⟨b, _, rfl⟩ := List.mem_map.1 h
    have := nmC_len b; omega
  · obtain ⟨i, _, rfl⟩ := List.mem_map.1 h
    exact Nat.le_refl 4
theorem wantL_fit (u : Dd) (h : u.many < 256) : NmFit (wantL u) := list_fit (by have := wantL_len u h; omega) (fun x hx => by have := wantL_short u x hx; omega)
theorem mod_of14 (n m k : Nat) (h : n % m = k) : (n : Int).tmod (m : Int) = (k : Int) ∧ (n : Int) % (m : Int) = (k : Int) := by
  rw [Int.tmod_eq_emod_of_nonneg (by omega), ← h]
  exact ⟨rfl, rfl⟩
theorem byteW {j : Nat} (hj : j ≤ 100) : (UInt8.ofNat (97 + j)).toNat = 97 + j := by simp; omega
theorem convW2 {g c D1 D2 : Nat} {u1 u2 : UInt8} {W : World} (h1 : u1.toNat = D1) (h2 : u2.toNat = D2) (hg : Blk W g #[.int .u8 (D1 : Int), .int .u8 (D2 : Int)] 5) :
    (convert 34 9 (.slice (some ⟨g, 0, none⟩) 2 c)).run Tryz.prog W = .ok (.string ⟨#[u1, u2]⟩) W :=
  bytes_conv (l := [u1, u2]) (by simp [h1, h2]) hg
theorem convW1 {g c D : Nat} {u : UInt8} {W : World} (hu : u.toNat = D) (hg : Blk W g #[.int .u8 (D : Int)] 5) :
    (convert 34 9 (.slice (some ⟨g, 0, none⟩) 1 c)).run Tryz.prog W = .ok (.string ⟨#[u]⟩) W :=
  bytes_conv (l := [u]) (by simp [hu]) hg
abbrev Dd.cells (u : Dd) : Array Value := #[.int .u8 (u.kd : Int), .int .i64 u.id, .int .i64 u.ty, .bool u.near, .slice u.a u.bs.length u.c, .int .u8 (u.many : Int), .int .u8 (u.nm : Int)]
set_option maxRecDepth 100000 in
set_option maxHeartbeats 4000000 in
theorem want_any {u : Dd} {w : World} {sa : Bool} {sl : List (List UInt8)} (hs : BytesIn w u.a u.bs) (hu : DdOk u) (he : nOf okN (wantL u) = ⟨sa, sl⟩) :
    Calls Tryz.prog 9 #[.agg u.cells] w (SetPost sa sl w) := by
  obtain ⟨i0, hi, hz0, hz1, hz2⟩ := info_parts Tryz.infoStr
  obtain ⟨w1, hw1, hb1, p1⟩ := alloc_new w u.cells 36
  obtain ⟨w2, hw2, hb2, p2⟩ := alloc_new w1 #[.bool false, .slice none 0 0] 41
  have HZ := Lib.hid (show w.heap.size + 1 = w1.heap.size by rw [← hw1]; simp)
  have HW := Lib.hid (And.intro hw1 hw2)
  have HS := Lib.hid ((hs.later hb1).later hb2)
  have HP := Lib.hid (p1.later hb2)
  have HR := Lib.hid p2
  have HB := Lib.hid (hb1.trans (hb2.mono hb1.size))
  have HOK := Lib.hid hu
  have HE := Lib.hid he
  have hlt : w.heap.size ≤ w1.heap.size := hb1.size
  clear hw1 hw2 hb1 hb2 p1 p2 hs hu he
  go_enter Tryz.func9, Tryz.ntmps9
  go_wp2_with fail
  rw [HW.out.1, HW.out.2, HZ.out]
  refine (few10_any (m := 20) HS.out rfl HOK.out.n (by decide) HOK.out.b).mono ?_
  rintro e w3 ⟨oA, oC, rfl, FO, hb⟩
  dsimp only
  obtain ⟨N0, hN0⟩ : ∃ N0, nmcL u.bs 20 = N0 := ⟨_, rfl⟩
  have hl0 : N0.length ≤ 20 := by rw [← hN0]; exact nmc_len _ _
  rw [hN0] at FO ⊢
  obtain ⟨c, hc⟩ : ∃ c, u.nm % 9 = c := ⟨_, rfl⟩
  have HWL := Lib.hid (show wantL u = mL N0 c (if 230 < u.many then u.many - 180 else 0) by unfold wantL; rw [hN0, hc])
  have HO := Lib.hid FO
  have HBW := Lib.hid hb
  have m1 : (u.nm : Int).tmod 9 = (c : Int) := (mod_of14 _ _ _ hc).1
  have m1' : (u.nm : Int) % 9 = (c : Int) := (mod_of14 _ _ _ hc).2
  have c9 : c < 9 := by omega
  have c5 : w3.cell? ⟨w.heap.size, 5, none⟩ = some (.int .u8 (u.many : Int)) := (HP.out.later hb).cell 5
  clear hN0 hc FO hb
  by_cases hm : 230 < u.many
  · obtain ⟨K, hK⟩ : ∃ K, u.many - 180 = K := ⟨_, rfl⟩
    have hK75 : K ≤ 75 := by have := HOK.out.many; omega
    have g1 : (230 : Int) < (u.many : Int) := by omega
    have g2 : IntKind.i64.wrap (u.many : Int) = (u.many : Int) := by have := HOK.out.many; rw [IntKind.wrap_i64]; omega
    have g3 : IntKind.i64.wrap ((u.many : Int) - 180) = (K : Int) := by have := HOK.out.many; rw [IntKind.wrap_i64]; omega
    have HWK := Lib.hid (show wantL u = mL N0 c K by rw [HWL.out, if_pos hm, hK])
    have f1 : IntKind.u8.wrap (c : Int) = (c : Int) := by rw [show IntKind.u8.wrap (c : Int) = (c : Int) % 256 from rfl]; omega
    obtain ⟨D3, hD3⟩ : ∃ D, 97 + c = D := ⟨_, rfl⟩
    have f2 : IntKind.u8.wrap (97 + (c : Int)) = (D3 : Int) := by rw [show IntKind.u8.wrap (97 + (c : Int)) = (97 + (c : Int)) % 256 from rfl]; omega
    obtain ⟨y3, hu3, hl3⟩ : ∃ v : UInt8, UInt8.ofNat (97 + c) = v ∧ v.toNat = D3 := ⟨_, rfl, (byteW (by omega)).trans hD3⟩
    clear hm hK c9 hD3
    go_wp2_with fail
    clear c5
    go_loopw [3, 4] (fun v vi wr => ∃ k : Nat, vi = .int .i64 (k : Int) ∧ k ≤ K ∧ wr.ownsRow w2.heap.size 9 1 v (mL N0 c k).length (tsV (mL N0 c k)) ∧ Below w2.heap.size w2 wr) (fun _ vi _ => K - (intOf vi).toNat)
    case atStart => exact ⟨0, rfl, Nat.zero_le _, by rw [show mL N0 c 0 = N0 by unfold mL; simp]; exact HO.out, HBW.out⟩
    case round =>
      clear HO HBW
      obtain ⟨k, rfl, hk, hown, hb⟩ := hrel
      have c5 : wr.cell? ⟨w.heap.size, 5, none⟩ = some (.int .u8 (u.many : Int)) := (HP.out.later hb).cell 5
      by_cases hlt2 : k < K
      · have b1 : (k : Int) < (K : Int) := by omega
        have b2 : IntKind.i64.wrap ((k : Int) + 1) = (k : Int) + 1 := by rw [IntKind.wrap_i64]; omega
        obtain ⟨q, hq⟩ : ∃ q, k / 9 = q := ⟨_, rfl⟩
        obtain ⟨r, hr⟩ : ∃ r, k % 9 = r := ⟨_, rfl⟩
        obtain ⟨D1, hD1⟩ : ∃ D, 97 + q = D := ⟨_, rfl⟩
        obtain ⟨D2, hD2⟩ : ∃ D, 97 + r = D := ⟨_, rfl⟩
        have e1 : (k : Int).tdiv 9 = (q : Int) := by rw [Int.tdiv_eq_ediv_of_nonneg (by omega)]; omega
        have e1' : (k : Int) / 9 = (q : Int) := by omega
        have e2 : (k : Int).tmod 9 = (r : Int) := by rw [Int.tmod_eq_emod_of_nonneg (by omega)]; omega
        have e2' : (k : Int) % 9 = (r : Int) := by omega
        have h1 : IntKind.i64.wrap (q : Int) = (q : Int) := by rw [IntKind.wrap_i64]; omega
        have h2 : IntKind.i64.wrap (r : Int) = (r : Int) := by rw [IntKind.wrap_i64]; omega
        have h3 : IntKind.i64.wrap (97 + (q : Int)) = (D1 : Int) := by rw [IntKind.wrap_i64]; omega
        have h4 : IntKind.i64.wrap (97 + (r : Int)) = (D2 : Int) := by rw [IntKind.wrap_i64]; omega
        have h5 : IntKind.u8.wrap (D1 : Int) = (D1 : Int) := by rw [show IntKind.u8.wrap (D1 : Int) = (D1 : Int) % 256 from rfl]; omega
        have h6 : IntKind.u8.wrap (D2 : Int) = (D2 : Int) := by rw [show IntKind.u8.wrap (D2 : Int) = (D2 : Int) % 256 from rfl]; omega
        obtain ⟨y1, hu1, hl1⟩ : ∃ v : UInt8, UInt8.ofNat (97 + q) = v ∧ v.toNat = D1 := ⟨_, rfl, (byteW (by omega)).trans hD1⟩
        obtain ⟨y2, hu2, hl2⟩ : ∃ v : UInt8, UInt8.ofNat (97 + r) = v ∧ v.toNat = D2 := ⟨_, rfl, (byteW (by omega)).trans hD2⟩
        have HX := Lib.hid (show mL N0 c (k + 1) = mL N0 c k ++ [[109, y1, y2, y3]] by rw [mL_next]; unfold mN; rw [hq, hr, hu1, hu2, hu3])
        have hle := mL_len N0 c k
        obtain ⟨w4, hw4, hb4, q4⟩ := alloc_new wr #[.int .u8 (D1 : Int), .int .u8 (D2 : Int)] 5
        have cv := convW2 (c := 2) hl1 hl2 q4
        obtain ⟨w5, hw5, hb5, q5⟩ := alloc_new w4 #[.int .u8 (D3 : Int)] 5
        have cv2 := convW1 (c := 1) hl3 q5
        have HB4 := hb.trans (hb4.mono hb.size)
        have HB5 := HB4.trans (hb5.mono HB4.size)
        have c6 : w4.cell? ⟨w.heap.size, 6, none⟩ = some (.int .u8 (u.nm : Int)) := (HP.out.later HB4).cell 6
        have hcat1 : ({ data := #[109] } : ByteArray) ++ { data := #[y1, y2] } = { data := #[109, y1, y2] } := by apply ByteArray.ext; simp
        have hcat2 : ({ data := #[109, y1, y2] } : ByteArray) ++ { data := #[y3] } = { data := #[109, y1, y2, y3] } := by apply ByteArray.ext; simp
        have HW4 := Lib.hid hw4
        have HW5 := Lib.hid hw5
        have HOW := Lib.hid (ownsRow_later (ownsRow_later hown hb4) hb5)
        have HBW := Lib.hid HB5
        have hs2 : w2.heap.size ≤ w5.heap.size := HBW.out.size
        clear hw4 hb4 q4 hw5 hb5 q5 hown hb hq hr hu1 hu2 hl1 hl2 HB4 HB5 hD1 hD2
        go_wp2_with (first | (rw [HW4.out]) | (rw [HW5.out]) | (at_builtin; go_must (refine wpList_append_own _ rfl _ _ 27 rfl w2.heap.size 9 i0 _ 1 16 Tryz.underlying27 hi hz0 hz1 hz2 rfl (by omega) _ _ _ rfl (HOW.out.alloc _) ⟨w5.heap.size, 0, none⟩ 1 1 (tsV [[109, y1, y2, y3]]) rfl rfl (World.news_of_block (cs := #[.string ⟨#[109, y1, y2, y3]⟩]) (t := 9) (fr := (0, 0)) (heap_alloc_new w5 _)) (tsV_one _) (by unfold maxLen; omega) (by omega) (by simp; omega) ?_; intro v6 w6 hown6 hgrow6 _)))
        have HB6 := Lib.hid ((HBW.out.alloc hs2 _).grown hgrow6 (by simp; omega) (fun j hj => (HOW.out.lt j hj).1))
        have HO6 := Lib.hid (show w6.ownsRow w2.heap.size 9 1 v6 (mL N0 c (k + 1)).length (tsV (mL N0 c (k + 1))) by rw [HX.out, tsV_append, List.length_append]; exact hown6)
        clear hown6 hgrow6
        go_wp2_with fail
        go_roundw
        case rel => exact ⟨k + 1, by go_num, by omega, HO6.out, HB6.out⟩
        case measure => simp [intOf]; omega
      · obtain rfl : k = K := by omega
        have b1 : ¬ (k : Int) < (k : Int) := by omega
        have HT := Lib.hid (RowV.own hown)
        have HBW := Lib.hid hb
        obtain ⟨a3, c3, rfl⟩ := owns_slice hown
        rw [← HWK.out] at HT ⊢
        clear hown hb
        go_wp2_with fail
        refine (of_any HT.out (wantL_fit u HOK.out.many) HE.out).mono ?_
        rintro e w5 ⟨a5, c5', rfl, ht, hb⟩
        dsimp only
        have q2 := (HR.out.later HBW.out).later hb
        have r0 : w5.cell? ⟨w1.heap.size, 0, none⟩ = some (.bool false) := q2.cell 0
        have r1 : w5.cell? ⟨w1.heap.size, 1, none⟩ = some (.slice none 0 0) := q2.cell 1
        have z0 := q2.frozen 0
        have z1 := q2.frozen 1
        have HBE := Lib.hid (box_set (w := w) (sa := sa) q2 ht (HB.out.trans ((HBW.out.trans (hb.mono HBW.out.size)).mono HB.out.size)) hlt)
        clear ht hb q2
        go_wp2_with fail
        obtain ⟨w9, e9, t0, t1, hp⟩ := HBE.out
        rw [e9]
        exact bodyPost_ret (v := .agg #[.bool sa, .slice a5 sl.length c5']) (by simp [results, Tryz.results9, go_sem, t0, t1]) rfl hp
  · have g1 : ¬ (230 : Int) < (u.many : Int) := by omega
    have HWK := Lib.hid (show wantL u = N0 by rw [HWL.out, if_neg hm]; exact List.append_nil _)
    have HT := Lib.hid (show TsAt w3 (.slice oA N0.length oC) N0 from RowV.own HO.out)
    clear hm HO
    go_wp2_with fail
    refine (of_any (sa := sa) (sl := sl) HT.out (by have := wantL_fit u HOK.out.many; rw [HWK.out] at this; exact this) (by have := HE.out; rw [HWK.out] at this; exact this)).mono ?_
    rintro e w5 ⟨a5, c5', rfl, ht, hb⟩
    dsimp only
    have q2 := (HR.out.later HBW.out).later hb
    have r0 : w5.cell? ⟨w1.heap.size, 0, none⟩ = some (.bool false) := q2.cell 0
    have r1 : w5.cell? ⟨w1.heap.size, 1, none⟩ = some (.slice none 0 0) := q2.cell 1
    have z0 := q2.frozen 0
    have z1 := q2.frozen 1
    have HBE := Lib.hid (box_set (w := w) (sa := sa) q2 ht (HB.out.trans ((HBW.out.trans (hb.mono HBW.out.size)).mono HB.out.size)) hlt)
    clear ht hb q2
    go_wp2_with fail
    obtain ⟨w9, e9, t0, t1, hp⟩ := HBE.out
    rw [e9]
    exact bodyPost_ret (v := .agg #[.bool sa, .slice a5 sl.length c5']) (by simp [results, Tryz.results9, go_sem, t0, t1]) rfl hp
end Go.Proofs.YtkjfafnnnkjoeaaGreatDoor
