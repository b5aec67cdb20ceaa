/- LinkBytes: the walk. -/
import Derived.Test.YtkfbhiggnnjoiaaDoorLkResets
namespace Go.Proofs.YtkfbhiggnnjoiaaDoor
open Go.RowKit Go.Lib

/-- Of the packed text s so many bytes have come on way k. -/
def wyJ (s : List UInt8) (j : Nat) : Wy := ⟨(packL s).drop j, if j < 4 + s.length then (packL s).take j else []⟩
def lkJ (k : Nat) (s : List UInt8) (j : Nat) : Lk := (lk0 1).put k (wyJ s j)
theorem put_put (x : Lk) (k : Nat) (y z : Wy) : (x.put k y).put k z = x.put k z := by unfold Lk.put; split <;> rfl
theorem take_j {k : Nat} {s : List UInt8} {j : Nat} (h : okM s) (hj : j + 1 < 4 + s.length) : takeL (lkJ k s j) k 1 = ([], 0, lkJ k s (j + 1)) := by
  have hl := packL_len s
  unfold takeL
  have e1 : (lkJ k s j).at k = ⟨(packL s).drop j, (packL s).take j⟩ := by
    unfold lkJ wyJ
    rw [Lk.put_same, if_pos (by omega)]
  have e2 : (packL s).take j ++ ((packL s).drop j).take 1 = (packL s).take (j + 1) := (List.take_add ..).symm
  simp only [e1, e2, pack_cut h hj]
  refine Prod.ext rfl (Prod.ext rfl ?_)
  simp only [lkJ, wyJ, put_put, List.drop_drop]
  rw [if_pos hj]
theorem take_l {k : Nat} {s : List UInt8} {j : Nat} (h : okM s) (hj : j + 1 = 4 + s.length) : takeL (lkJ k s j) k 1 = ([s], 0, lkJ k s (j + 1)) := by
  have hl := packL_len s
  unfold takeL
  have e1 : (lkJ k s j).at k = ⟨(packL s).drop j, (packL s).take j⟩ := by
    unfold lkJ wyJ
    rw [Lk.put_same, if_pos (by omega)]
  have e2 : (packL s).take j ++ ((packL s).drop j).take 1 = packL s ++ [] := by
    rw [← List.take_add, List.take_of_length_le (by omega), List.append_nil]
  have hf := feedL_pack h []
  rw [feedL_nil] at hf
  simp only [e1, e2, hf]
  refine Prod.ext rfl (Prod.ext rfl ?_)
  simp only [lkJ, wyJ, put_put, List.drop_drop]
  rw [if_neg (by omega)]
theorem sent_j (k : Nat) (s : List UInt8) (h1 : 1 ≤ s.length) (h2 : s.length ≤ 1000) : sendL (lk0 1) k s = (0, lkJ k s 0) := by
  have hl := packL_len s
  have e : (lk0 1).at k = ⟨[], []⟩ := by unfold Lk.at; split <;> rfl
  unfold sendL injL
  rw [if_pos ⟨h1, by omega⟩, e, if_neg (by show ¬ 262144 < 0 + _; omega)]
  simp only [lkJ, wyJ]
  rw [if_pos (by omega)]; rfl
theorem laid_j (k : Nat) (s t : List UInt8) (h1 : 1 ≤ s.length) (h2 : s.length ≤ 1000) (ht : t = packL s) : injL (lk0 1) k t = (0, lkJ k s 0) := by
  subst ht
  have := sent_j k s h1 h2
  unfold sendL at this
  rw [if_pos ⟨h1, by omega⟩] at this; exact this
theorem wait_j (k : Nat) (s : List UInt8) (j : Nat) : ((lkJ k s j).at k).W.length = 4 + s.length - j := by
  unfold lkJ; rw [Lk.put_same]; simp only [wyJ]; rw [List.length_drop, packL_len]
def By (b : Addr) (base l k : Nat) (s : List UInt8) (j : Nat) (w0 wr : World) : Prop := LkIs b base l (lkJ k s (j - 1)) wr ∧ Kept base w0 wr
theorem cut_size' (s : ByteArray) (n : Nat) (hn : n ≤ s.size) (c : UInt8) : ((⟨#[c]⟩ : ByteArray) ++ s.extract 0 n).size = 1 + n := by
  have : (s.extract 0 n).size = n := by rw [ByteArray.size_extract]; omega
  rw [ByteArray.size_append, this]; rfl

/-- A length of one byte, as it is packed. -/
theorem head_conv (n : Nat) (hn : n ≤ 255) (W : World) : (convert 39 9 (.slice (some ⟨W.heap.size, 0, none⟩) 4 4)).run Tryd.prog (W.alloc (.cells #[.int .u8 0, .int .u8 0, .int .u8 0, .int .u8 (n : Int)] 5)) = .ok (.string ⟨(be4 n).toArray⟩) (W.alloc (.cells #[.int .u8 0, .int .u8 0, .int .u8 0, .int .u8 (n : Int)] 5)) := by
  have hb := Blk.new W #[.int .u8 0, .int .u8 0, .int .u8 0, .int .u8 (n : Int)] 5
  have h3 : UInt8.ofNat (n / 16777216) = 0 := by rw [show n / 16777216 = 0 by omega]; rfl
  have h2 : UInt8.ofNat (n / 65536) = 0 := by rw [show n / 65536 = 0 by omega]; rfl
  have h1 : UInt8.ofNat (n / 256) = 0 := by rw [show n / 256 = 0 by omega]; rfl
  have h0 : ((UInt8.ofNat n).toNat : Int) = (n : Int) := by simp; omega
  have hat : BytesAt (W.alloc (.cells #[.int .u8 0, .int .u8 0, .int .u8 0, .int .u8 (n : Int)] 5)) (some ⟨W.heap.size, 0, none⟩) (be4 n) := by
    intro j x hx
    refine ⟨W.heap.size, 0, rfl, ?_⟩
    rw [Nat.zero_add, hb.cell]
    have hj := (List.getElem?_eq_some_iff.1 hx).1
    rw [be4_len] at hj
    unfold be4 at hx
    match j, hj with
    | 0, _ => cases hx; rw [h3]; rfl
    | 1, _ => cases hx; rw [h2]; rfl
    | 2, _ => cases hx; rw [h1]; rfl
    | 3, _ => cases hx; rw [h0]; rfl
  have := conv_bytes (c := 4) hat
  rw [be4_len] at this
  exact this
theorem take_by {b : Addr} {base l k j : Nat} {s : List UInt8} {w0 w : World} (hk : k < 2) (hs : okM s) (h : By b base l k s j w0 w) (h1 : 1 ≤ j) (hj : j < 4 + s.length) :
    Calls Tryd.prog 20 #[.pointer (some ⟨l, 0, none⟩), .int .i64 (k : Int), .int .i64 1] w fun e w' => (∃ a c, e = .returned (.tuple #[.slice a 0 c, .int .i64 0])) ∧ By b base l k s (j + 1) w0 w' := by
  have he := take_j (k := k) hs (j := j - 1) (by omega)
  rw [show j - 1 + 1 = j + 1 - 1 by omega] at he
  refine (take_to (N := 0) h.1 (by show ((lk0 1).put k _).ep ≤ _; rw [Lk.put_ep]; decide) k hk 1 (by omega) he rfl).mono ?_
  rintro e w' ⟨a, c, rfl, _, hl, hk'⟩
  exact ⟨⟨a, c, rfl⟩, hl, h.2.trans hk'⟩
theorem take_byl {b : Addr} {base l k j : Nat} {s : ByteArray} {w0 w : World} (hk : k < 2) (hs : okM s.data.toList) (h : By b base l k s.data.toList j w0 w) (_h1 : 1 ≤ j) (hj : j = 4 + s.data.toList.length) :
    Calls Tryd.prog 20 #[.pointer (some ⟨l, 0, none⟩), .int .i64 (k : Int), .int .i64 1] w fun e w' => (∃ g c, e = .returned (.tuple #[.slice (some ⟨g, 0, none⟩) 1 c, .int .i64 0]) ∧ w'.cell? ⟨g, 0, none⟩ = some (.string s)) ∧ By b base l k s.data.toList (j + 1) w0 w' := by
  have he := take_l (k := k) hs (j := j - 1) (by omega)
  rw [show j - 1 + 1 = j + 1 - 1 by omega] at he
  refine (take_to (N := 1) h.1 (by show ((lk0 1).put k _).ep ≤ _; rw [Lk.put_ep]; decide) k hk 1 (by omega) he rfl).mono ?_
  rintro e w' ⟨a, c, rfl, ho, hl, hk'⟩
  obtain ⟨g, rfl, hc⟩ := strAt_own ho 0 _ rfl
  rw [bytes_eta] at hc
  exact ⟨⟨g, c, rfl, hc⟩, hl, h.2.trans hk'⟩
theorem wait_by {b : Addr} {base l k j N : Nat} {s : List UInt8} {w0 w : World} (hk : k < 2) (h : By b base l k s (j + 1) w0 w) (hN : 4 + s.length - j = N) :
    Calls Tryd.prog 15 #[.pointer (some ⟨l, 0, none⟩), .int .i64 (k : Int)] w fun e w' => e = .returned (.int .i64 (N : Int)) ∧ By b base l k s (j + 1) w0 w' := by
  refine (waiting_is (N := N) h.1 k hk (by rw [wait_j]; omega)).mono ?_
  rintro e w' ⟨rfl, hl, hk'⟩
  exact ⟨rfl, hl, h.2.trans hk'⟩
theorem wait_other {b : Addr} {base l k o : Nat} {s : List UInt8} {w0 w : World} (ho : o < 2) (hk : k < 2) (hok : o ≠ k) (h : By b base l k s 1 w0 w) :
    Calls Tryd.prog 15 #[.pointer (some ⟨l, 0, none⟩), .int .i64 (o : Int)] w fun e w' => e = .returned (.int .i64 ((0 : Nat) : Int)) ∧ By b base l k s 1 w0 w' := by
  refine (waiting_is (N := 0) h.1 o ho (by unfold lkJ; rw [Lk.put_other _ _ hk ho hok]; unfold Lk.at lk0; split <;> rfl)).mono ?_
  rintro e w' ⟨rfl, hl, hk'⟩
  exact ⟨rfl, hl, h.2.trans hk'⟩

set_option maxRecDepth 100000 in
set_option maxHeartbeats 1000000 in
theorem bytes_walk (s : ByteArray) (x y : Bool) (b : Addr) (w : World) (hg : Gs b w) (hge : Ge w) (hs : s.size ≤ maxLen) :
    Calls Tryd.prog 8 #[.string s, .bool x, .bool y] w fun e w' => e = .returned (.bool true) ∧ Below w.heap.size w w' := by
  unfold maxLen at hs
  obtain ⟨K1, hK1⟩ : ∃ K, min s.size 59 = K := ⟨_, rfl⟩
  have hKs1 : K1 ≤ s.size := by omega
  have hk59 : K1 ≤ 59 := by omega
  have hmk1 : (if (59 : Int) < (s.size : Int) then (59 : Int) else (s.size : Int)) = (K1 : Int) := by split <;> omega
  obtain ⟨S, hS⟩ : ∃ S : ByteArray, (⟨#[115]⟩ : ByteArray) ++ s.extract 0 K1 = S := ⟨_, rfl⟩
  have hSs : S.size = 1 + K1 := by rw [← hS]; exact cut_size' s K1 hKs1 115
  have hS1 : 1 ≤ S.size ∧ S.size ≤ 60 := by omega
  have HS := Lib.hid (And.intro hmk1 (And.intro hS hS1)); clear hmk1 hS hSs hK1
  have HG := Lib.hid (And.intro hg hge); clear hg hge
  go_enter Tryd.func8, Tryd.ntmps8
  go_wp2_with fail
  refine (examples_any b w HG.out.1 HG.out.2).mono ?_
  rintro e w1 ⟨rfl, hb1⟩
  have HB1 := Lib.hid hb1; clear hb1
  go_wp2_with fail
  refine (newLink_any b w.heap.size w1 HB1.out.size (HG.out.1.below HB1.out) (HG.out.2.below HB1.out) HG.out.2.2 HG.out.1.2).mono ?_
  rintro e w2 ⟨rfl, hl2, hk2⟩
  have HK2 := Lib.hid hk2; clear hk2
  have hmk1 := HS.out.1
  have hSe := HS.out.2.1
  have hS1 := HS.out.2.2
  cases y with
  | true =>
    cases x with
    | true =>
      have hcv := fun W => head_conv S.size (by omega) W
      obtain ⟨H4, hH4⟩ : ∃ H4 : ByteArray, (⟨(be4 S.size).toArray⟩ : ByteArray) = H4 := ⟨_, rfl⟩
      rw [hH4] at hcv
      have hs4 : H4.size = 4 := by rw [← hH4]; rfl
      have HH4 := Lib.hid hH4; clear hH4
      go_wp2_with fail
      have hb3 : Below w2.heap.size w2 (w2.alloc (.cells #[.int .u8 0, .int .u8 0, .int .u8 0, .int .u8 (S.size : Int)] 5)) := (Below.refl _ _).alloc (Nat.le_refl _) _
      have hl3 := hl2.below hb3
      have hT4 : (H4 ++ S).data.toList = packL S.data.toList := by rw [← HH4.out]; simp [packL]
      refine (inject_to hl3 0 (by omega) (H4 ++ S) (laid_j 0 S.data.toList (H4 ++ S).data.toList (by show 1 ≤ S.size; omega) (by show S.size ≤ 1000; omega) hT4)).mono ?_
      rintro e w3 ⟨rfl, hl4, hk4⟩
      have HBy := Lib.hid (show By b w.heap.size w1.heap.size 0 S.data.toList 1 w1 w3 from ⟨hl4, HK2.out.trans ((Kept.of hb3).trans hk4)⟩)
      clear hl3 hb3 hl4 hk4 hl2 hT4 hcv hs4 hSe hmk1
      obtain ⟨N, hN⟩ : ∃ N, 4 + S.data.toList.length = N := ⟨_, rfl⟩
      have hNs : N = S.size + 4 := by rw [← hN]; show 4 + S.size = _; omega
      have hNi : (S.size : Int) + 4 = (N : Int) := by omega
      have HN := Lib.hid (And.intro hN hNi); clear hN hNi
      have hNi := HN.out.2
      clear hNs
      go_wp2_with fail
      refine (wait_by (k := 0) (j := 0) (N := N) (by omega) HBy.out HN.out.1).mono ?_
      rintro e w4 ⟨rfl, hq4⟩
      go_wp2_with fail
      refine (wait_other (k := 0) (o := 1) (by omega) (by omega) (by omega) hq4).mono ?_
      rintro e w5 ⟨rfl, hq5⟩
      have HQ5 := Lib.hid hq5; clear hq4 hq5 hNi
      go_wp2_with fail
      have hN64 : N ≤ 64 := by have h1 := HN.out.1; have h2 := HS.out.2.2.2; have : S.data.toList.length = S.size := rfl; omega
      have hN5 : 5 ≤ N := by have h1 := HN.out.1; have h2 := HS.out.2.2.1; have : S.data.toList.length = S.size := rfl; omega
      go_loopw [11] (fun i wr => ∃ j : Nat, 1 ≤ j ∧ j ≤ N + 1 ∧ i = .int .i64 (j : Int) ∧ By b w.heap.size w1.heap.size 0 S.data.toList j w1 wr) (fun i _ => 90 - (intOf i).toNat)
      case atStart => exact ⟨1, Nat.le_refl _, by omega, rfl, HQ5.out⟩
      case round =>
        obtain ⟨j, hj1, hjN, rfl, hq⟩ := hrel
        have HQj := Lib.hid hq; clear hq
        by_cases hle : j ≤ N
        · have hle' : (j : Int) ≤ (N : Int) := by omega
          by_cases hlast : j = N
          · have e1 : ((j : Int) == (N : Int)) = true := by simp; omega
            have e2 : (N : Int) - (j : Int) = 0 := by omega
            have HL := Lib.hid hlast; clear hlast
            have HE := Lib.hid e2; clear e2
            go_wp2_with fail
            refine (take_byl (k := 0) (by omega) (by have := HS.out.2.2; show 1 ≤ S.size ∧ S.size ≤ 65536; omega) HQj.out hj1 (by rw [HL.out, ← HN.out.1])).mono ?_
            rintro e w6 ⟨⟨g, c, rfl, hc⟩, hq6⟩
            have HQ6 := Lib.hid hq6; clear hq6
            have e2 := HE.out
            go_wp2_with fail
            refine (wait_by (k := 0) (N := 0) (by omega) HQ6.out (by rw [HL.out, ← HN.out.1]; omega)).mono ?_
            rintro e w7 ⟨rfl, hq7⟩
            have HQ7 := Lib.hid hq7; clear hq7
            go_wp2
            clear e2
            go_roundw
            case rel => exact ⟨j + 1, by omega, by omega, by go_num, HQ7.out⟩
            case measure => simp [intOf]; omega
          · have e1 : ((j : Int) == (N : Int)) = false := by simp; omega
            obtain ⟨Q, hQ⟩ : ∃ Q, N - j = Q := ⟨_, rfl⟩
            have e2 : (N : Int) - (j : Int) = (Q : Int) := by omega
            have HL := Lib.hid hlast; clear hlast
            have HE := Lib.hid (And.intro e2 hQ); clear e2 hQ
            go_wp2_with fail
            refine (take_by (k := 0) (by omega) (by have := HS.out.2.2; show 1 ≤ S.size ∧ S.size ≤ 65536; omega) HQj.out hj1 (by rw [HN.out.1]; have := HL.out; omega)).mono ?_
            rintro e w6 ⟨⟨a, c, rfl⟩, hq6⟩
            have HQ6 := Lib.hid hq6; clear hq6
            have e2 := HE.out.1
            go_wp2_with fail
            refine (wait_by (k := 0) (N := Q) (by omega) HQ6.out (by rw [HN.out.1]; exact HE.out.2)).mono ?_
            rintro e w7 ⟨rfl, hq7⟩
            have HQ7 := Lib.hid hq7; clear hq7
            go_wp2
            clear e2
            go_roundw
            case rel => exact ⟨j + 1, by omega, by omega, by go_num, HQ7.out⟩
            case measure => simp [intOf]; omega
        · have hle' : ¬ (j : Int) ≤ (N : Int) := by omega
          go_wp2
          go_ret
          exact ⟨rfl, HB1.out.trans (HQj.out.2.below HB1.out.size)⟩
    | false =>
      go_wp2_with fail
      refine (send_to hl2 0 (by omega) S (by unfold maxLen; omega) (sent_j 0 S.data.toList (by show 1 ≤ S.size; omega) (by show S.size ≤ 1000; omega))).mono ?_
      rintro e w3 ⟨rfl, hl4, hk4⟩
      have HBy := Lib.hid (show By b w.heap.size w1.heap.size 0 S.data.toList 1 w1 w3 from ⟨hl4, HK2.out.trans hk4⟩)
      clear hl4 hk4 hl2 hSe hmk1
      obtain ⟨N, hN⟩ : ∃ N, 4 + S.data.toList.length = N := ⟨_, rfl⟩
      have hNs : N = S.size + 4 := by rw [← hN]; show 4 + S.size = _; omega
      have hNi : (S.size : Int) + 4 = (N : Int) := by omega
      have HN := Lib.hid (And.intro hN hNi); clear hN hNi
      have hNi := HN.out.2
      clear hNs
      go_wp2_with fail
      refine (wait_by (k := 0) (j := 0) (N := N) (by omega) HBy.out HN.out.1).mono ?_
      rintro e w4 ⟨rfl, hq4⟩
      go_wp2_with fail
      refine (wait_other (k := 0) (o := 1) (by omega) (by omega) (by omega) hq4).mono ?_
      rintro e w5 ⟨rfl, hq5⟩
      have HQ5 := Lib.hid hq5; clear hq4 hq5 hNi
      go_wp2_with fail
      have hN64 : N ≤ 64 := by have h1 := HN.out.1; have h2 := HS.out.2.2.2; have : S.data.toList.length = S.size := rfl; omega
      have hN5 : 5 ≤ N := by have h1 := HN.out.1; have h2 := HS.out.2.2.1; have : S.data.toList.length = S.size := rfl; omega
      go_loopw [11] (fun i wr => ∃ j : Nat, 1 ≤ j ∧ j ≤ N + 1 ∧ i = .int .i64 (j : Int) ∧ By b w.heap.size w1.heap.size 0 S.data.toList j w1 wr) (fun i _ => 90 - (intOf i).toNat)
      case atStart => exact ⟨1, Nat.le_refl _, by omega, rfl, HQ5.out⟩
      case round =>
        obtain ⟨j, hj1, hjN, rfl, hq⟩ := hrel
        have HQj := Lib.hid hq; clear hq
        by_cases hle : j ≤ N
        · have hle' : (j : Int) ≤ (N : Int) := by omega
          by_cases hlast : j = N
          · have e1 : ((j : Int) == (N : Int)) = true := by simp; omega
            have e2 : (N : Int) - (j : Int) = 0 := by omega
            have HL := Lib.hid hlast; clear hlast
            have HE := Lib.hid e2; clear e2
            go_wp2_with fail
            refine (take_byl (k := 0) (by omega) (by have := HS.out.2.2; show 1 ≤ S.size ∧ S.size ≤ 65536; omega) HQj.out hj1 (by rw [HL.out, ← HN.out.1])).mono ?_
            rintro e w6 ⟨⟨g, c, rfl, hc⟩, hq6⟩
            have HQ6 := Lib.hid hq6; clear hq6
            have e2 := HE.out
            go_wp2_with fail
            refine (wait_by (k := 0) (N := 0) (by omega) HQ6.out (by rw [HL.out, ← HN.out.1]; omega)).mono ?_
            rintro e w7 ⟨rfl, hq7⟩
            have HQ7 := Lib.hid hq7; clear hq7
            go_wp2
            clear e2
            go_roundw
            case rel => exact ⟨j + 1, by omega, by omega, by go_num, HQ7.out⟩
            case measure => simp [intOf]; omega
          · have e1 : ((j : Int) == (N : Int)) = false := by simp; omega
            obtain ⟨Q, hQ⟩ : ∃ Q, N - j = Q := ⟨_, rfl⟩
            have e2 : (N : Int) - (j : Int) = (Q : Int) := by omega
            have HL := Lib.hid hlast; clear hlast
            have HE := Lib.hid (And.intro e2 hQ); clear e2 hQ
            go_wp2_with fail
            refine (take_by (k := 0) (by omega) (by have := HS.out.2.2; show 1 ≤ S.size ∧ S.size ≤ 65536; omega) HQj.out hj1 (by rw [HN.out.1]; have := HL.out; omega)).mono ?_
            rintro e w6 ⟨⟨a, c, rfl⟩, hq6⟩
            have HQ6 := Lib.hid hq6; clear hq6
            have e2 := HE.out.1
            go_wp2_with fail
            refine (wait_by (k := 0) (N := Q) (by omega) HQ6.out (by rw [HN.out.1]; exact HE.out.2)).mono ?_
            rintro e w7 ⟨rfl, hq7⟩
            have HQ7 := Lib.hid hq7; clear hq7
            go_wp2
            clear e2
            go_roundw
            case rel => exact ⟨j + 1, by omega, by omega, by go_num, HQ7.out⟩
            case measure => simp [intOf]; omega
        · have hle' : ¬ (j : Int) ≤ (N : Int) := by omega
          go_wp2
          go_ret
          exact ⟨rfl, HB1.out.trans (HQj.out.2.below HB1.out.size)⟩
  | false =>
    cases x with
    | true =>
      have hcv := fun W => head_conv S.size (by omega) W
      obtain ⟨H4, hH4⟩ : ∃ H4 : ByteArray, (⟨(be4 S.size).toArray⟩ : ByteArray) = H4 := ⟨_, rfl⟩
      rw [hH4] at hcv
      have hs4 : H4.size = 4 := by rw [← hH4]; rfl
      have HH4 := Lib.hid hH4; clear hH4
      go_wp2_with fail
      have hb3 : Below w2.heap.size w2 (w2.alloc (.cells #[.int .u8 0, .int .u8 0, .int .u8 0, .int .u8 (S.size : Int)] 5)) := (Below.refl _ _).alloc (Nat.le_refl _) _
      have hl3 := hl2.below hb3
      have hT4 : (H4 ++ S).data.toList = packL S.data.toList := by rw [← HH4.out]; simp [packL]
      refine (inject_to hl3 1 (by omega) (H4 ++ S) (laid_j 1 S.data.toList (H4 ++ S).data.toList (by show 1 ≤ S.size; omega) (by show S.size ≤ 1000; omega) hT4)).mono ?_
      rintro e w3 ⟨rfl, hl4, hk4⟩
      have HBy := Lib.hid (show By b w.heap.size w1.heap.size 1 S.data.toList 1 w1 w3 from ⟨hl4, HK2.out.trans ((Kept.of hb3).trans hk4)⟩)
      clear hl3 hb3 hl4 hk4 hl2 hT4 hcv hs4 hSe hmk1
      obtain ⟨N, hN⟩ : ∃ N, 4 + S.data.toList.length = N := ⟨_, rfl⟩
      have hNs : N = S.size + 4 := by rw [← hN]; show 4 + S.size = _; omega
      have hNi : (S.size : Int) + 4 = (N : Int) := by omega
      have HN := Lib.hid (And.intro hN hNi); clear hN hNi
      have hNi := HN.out.2
      clear hNs
      go_wp2_with fail
      refine (wait_by (k := 1) (j := 0) (N := N) (by omega) HBy.out HN.out.1).mono ?_
      rintro e w4 ⟨rfl, hq4⟩
      go_wp2_with fail
      refine (wait_other (k := 1) (o := 0) (by omega) (by omega) (by omega) hq4).mono ?_
      rintro e w5 ⟨rfl, hq5⟩
      have HQ5 := Lib.hid hq5; clear hq4 hq5 hNi
      go_wp2_with fail
      have hN64 : N ≤ 64 := by have h1 := HN.out.1; have h2 := HS.out.2.2.2; have : S.data.toList.length = S.size := rfl; omega
      have hN5 : 5 ≤ N := by have h1 := HN.out.1; have h2 := HS.out.2.2.1; have : S.data.toList.length = S.size := rfl; omega
      go_loopw [11] (fun i wr => ∃ j : Nat, 1 ≤ j ∧ j ≤ N + 1 ∧ i = .int .i64 (j : Int) ∧ By b w.heap.size w1.heap.size 1 S.data.toList j w1 wr) (fun i _ => 90 - (intOf i).toNat)
      case atStart => exact ⟨1, Nat.le_refl _, by omega, rfl, HQ5.out⟩
      case round =>
        obtain ⟨j, hj1, hjN, rfl, hq⟩ := hrel
        have HQj := Lib.hid hq; clear hq
        by_cases hle : j ≤ N
        · have hle' : (j : Int) ≤ (N : Int) := by omega
          by_cases hlast : j = N
          · have e1 : ((j : Int) == (N : Int)) = true := by simp; omega
            have e2 : (N : Int) - (j : Int) = 0 := by omega
            have HL := Lib.hid hlast; clear hlast
            have HE := Lib.hid e2; clear e2
            go_wp2_with fail
            refine (take_byl (k := 1) (by omega) (by have := HS.out.2.2; show 1 ≤ S.size ∧ S.size ≤ 65536; omega) HQj.out hj1 (by rw [HL.out, ← HN.out.1])).mono ?_
            rintro e w6 ⟨⟨g, c, rfl, hc⟩, hq6⟩
            have HQ6 := Lib.hid hq6; clear hq6
            have e2 := HE.out
            go_wp2_with fail
            refine (wait_by (k := 1) (N := 0) (by omega) HQ6.out (by rw [HL.out, ← HN.out.1]; omega)).mono ?_
            rintro e w7 ⟨rfl, hq7⟩
            have HQ7 := Lib.hid hq7; clear hq7
            go_wp2
            clear e2
            go_roundw
            case rel => exact ⟨j + 1, by omega, by omega, by go_num, HQ7.out⟩
            case measure => simp [intOf]; omega
          · have e1 : ((j : Int) == (N : Int)) = false := by simp; omega
            obtain ⟨Q, hQ⟩ : ∃ Q, N - j = Q := ⟨_, rfl⟩
            have e2 : (N : Int) - (j : Int) = (Q : Int) := by omega
            have HL := Lib.hid hlast; clear hlast
            have HE := Lib.hid (And.intro e2 hQ); clear e2 hQ
            go_wp2_with fail
            refine (take_by (k := 1) (by omega) (by have := HS.out.2.2; show 1 ≤ S.size ∧ S.size ≤ 65536; omega) HQj.out hj1 (by rw [HN.out.1]; have := HL.out; omega)).mono ?_
            rintro e w6 ⟨⟨a, c, rfl⟩, hq6⟩
            have HQ6 := Lib.hid hq6; clear hq6
            have e2 := HE.out.1
            go_wp2_with fail
            refine (wait_by (k := 1) (N := Q) (by omega) HQ6.out (by rw [HN.out.1]; exact HE.out.2)).mono ?_
            rintro e w7 ⟨rfl, hq7⟩
            have HQ7 := Lib.hid hq7; clear hq7
            go_wp2
            clear e2
            go_roundw
            case rel => exact ⟨j + 1, by omega, by omega, by go_num, HQ7.out⟩
            case measure => simp [intOf]; omega
        · have hle' : ¬ (j : Int) ≤ (N : Int) := by omega
          go_wp2
          go_ret
          exact ⟨rfl, HB1.out.trans (HQj.out.2.below HB1.out.size)⟩
    | false =>
      go_wp2_with fail
      refine (send_to hl2 1 (by omega) S (by unfold maxLen; omega) (sent_j 1 S.data.toList (by show 1 ≤ S.size; omega) (by show S.size ≤ 1000; omega))).mono ?_
      rintro e w3 ⟨rfl, hl4, hk4⟩
      have HBy := Lib.hid (show By b w.heap.size w1.heap.size 1 S.data.toList 1 w1 w3 from ⟨hl4, HK2.out.trans hk4⟩)
      clear hl4 hk4 hl2 hSe hmk1
      obtain ⟨N, hN⟩ : ∃ N, 4 + S.data.toList.length = N := ⟨_, rfl⟩
      have hNs : N = S.size + 4 := by rw [← hN]; show 4 + S.size = _; omega
      have hNi : (S.size : Int) + 4 = (N : Int) := by omega
      have HN := Lib.hid (And.intro hN hNi); clear hN hNi
      have hNi := HN.out.2
      clear hNs
      go_wp2_with fail
      refine (wait_by (k := 1) (j := 0) (N := N) (by omega) HBy.out HN.out.1).mono ?_
      rintro e w4 ⟨rfl, hq4⟩
      go_wp2_with fail
      refine (wait_other (k := 1) (o := 0) (by omega) (by omega) (by omega) hq4).mono ?_
      rintro e w5 ⟨rfl, hq5⟩
      have HQ5 := Lib.hid hq5; clear hq4 hq5 hNi
      go_wp2_with fail
      have hN64 : N ≤ 64 := by have h1 := HN.out.1; have h2 := HS.out.2.2.2; have : S.data.toList.length = S.size := rfl; omega
      have hN5 : 5 ≤ N := by have h1 := HN.out.1; have h2 := HS.out.2.2.1; have : S.data.toList.length = S.size := rfl; omega
      go_loopw [11] (fun i wr => ∃ j : Nat, 1 ≤ j ∧ j ≤ N + 1 ∧ i = .int .i64 (j : Int) ∧ By b w.heap.size w1.heap.size 1 S.data.toList j w1 wr) (fun i _ => 90 - (intOf i).toNat)
      case atStart => exact ⟨1, Nat.le_refl _, by omega, rfl, HQ5.out⟩
      case round =>
        obtain ⟨j, hj1, hjN, rfl, hq⟩ := hrel
        have HQj := Lib.hid hq; clear hq
        by_cases hle : j ≤ N
        · have hle' : (j : Int) ≤ (N : Int) := by omega
          by_cases hlast : j = N
          · have e1 : ((j : Int) == (N : Int)) = true := by simp; omega
            have e2 : (N : Int) - (j : Int) = 0 := by omega
            have HL := Lib.hid hlast; clear hlast
            have HE := Lib.hid e2; clear e2
            go_wp2_with fail
            refine (take_byl (k := 1) (by omega) (by have := HS.out.2.2; show 1 ≤ S.size ∧ S.size ≤ 65536; omega) HQj.out hj1 (by rw [HL.out, ← HN.out.1])).mono ?_
            rintro e w6 ⟨⟨g, c, rfl, hc⟩, hq6⟩
            have HQ6 := Lib.hid hq6; clear hq6
            have e2 := HE.out
            go_wp2_with fail
            refine (wait_by (k := 1) (N := 0) (by omega) HQ6.out (by rw [HL.out, ← HN.out.1]; omega)).mono ?_
            rintro e w7 ⟨rfl, hq7⟩
            have HQ7 := Lib.hid hq7; clear hq7
            go_wp2
            clear e2
            go_roundw
            case rel => exact ⟨j + 1, by omega, by omega, by go_num, HQ7.out⟩
            case measure => simp [intOf]; omega
          · have e1 : ((j : Int) == (N : Int)) = false := by simp; omega
            obtain ⟨Q, hQ⟩ : ∃ Q, N - j = Q := ⟨_, rfl⟩
            have e2 : (N : Int) - (j : Int) = (Q : Int) := by omega
            have HL := Lib.hid hlast; clear hlast
            have HE := Lib.hid (And.intro e2 hQ); clear e2 hQ
            go_wp2_with fail
            refine (take_by (k := 1) (by omega) (by have := HS.out.2.2; show 1 ≤ S.size ∧ S.size ≤ 65536; omega) HQj.out hj1 (by rw [HN.out.1]; have := HL.out; omega)).mono ?_
            rintro e w6 ⟨⟨a, c, rfl⟩, hq6⟩
            have HQ6 := Lib.hid hq6; clear hq6
            have e2 := HE.out.1
            go_wp2_with fail
            refine (wait_by (k := 1) (N := Q) (by omega) HQ6.out (by rw [HN.out.1]; exact HE.out.2)).mono ?_
            rintro e w7 ⟨rfl, hq7⟩
            have HQ7 := Lib.hid hq7; clear hq7
            go_wp2
            clear e2
            go_roundw
            case rel => exact ⟨j + 1, by omega, by omega, by go_num, HQ7.out⟩
            case measure => simp [intOf]; omega
        · have hle' : ¬ (j : Int) ≤ (N : Int) := by omega
          go_wp2
          go_ret
          exact ⟨rfl, HB1.out.trans (HQj.out.2.below HB1.out.size)⟩
end Go.Proofs.YtkfbhiggnnjoiaaDoor
