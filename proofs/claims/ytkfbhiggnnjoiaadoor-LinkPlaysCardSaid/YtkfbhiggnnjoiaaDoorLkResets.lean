/- LinkResets: the walk. -/
import Derived.Test.YtkfbhiggnnjoiaaDoorLkEpochs
namespace Go.Proofs.YtkfbhiggnnjoiaaDoor
open Go.RowKit Go.Lib

theorem pack_cut {s : List UInt8} {k : Nat} (h1 : okM s) (hk : k < 4 + s.length) : feedL ((packL s).take k) = ⟨[], (packL s).take k, none⟩ := by
  refine feedL_short ?_
  cases ht : takeOf ((packL s).take k) with
  | short => rfl
  | bad n =>
    have h := takeOf_bad_append (t := (packL s).drop k) ht
    rw [List.take_append_drop] at h
    have := takeOf_pack h1 []
    rw [List.append_nil] at this
    rw [this] at h; cases h
  | msg m =>
    have h := takeOf_msg_append (t := (packL s).drop k) ht
    rw [List.take_append_drop] at h
    have := takeOf_pack h1 []
    rw [List.append_nil] at this
    rw [this] at h
    have hm := (takeOf_msg ht).2.2.1
    cases h
    rw [List.length_take, packL_len] at hm
    omega
theorem epoch_quiet {b : Addr} {base l : Nat} {x : Lk} {z : Int} {w : World} (h : LkIs b base l x w) (hz : (x.ep : Int) = z) (q : Nat) :
    Calls Tryd.prog 14 #[.pointer (some ⟨l, 0, none⟩)] (w.drewN q) fun e w' => e = .returned (.int .u64 z) ∧ w' = w.drewN q :=
  (epoch_to (h.below (below_drewN' q)) hz).mono fun _ _ h => ⟨h.1, h.2.symm⟩
theorem bytes_eta (s : ByteArray) : (⟨s.data.toList.toArray⟩ : ByteArray) = s := by
  apply ByteArray.ext; simp
/-- Half a message has come. -/
def lkHalf (e : Nat) (s : List UInt8) (n : Nat) : Lk := ⟨⟨(packL s).drop n, (packL s).take n⟩, ⟨[], []⟩, e, 0⟩
theorem take_half (e : Nat) (s : List UInt8) (n : Nat) (h1 : okM s) (hn : n < 4 + s.length) : takeL (lkTwo e s) 0 n = ([], 0, lkHalf e s n) := by
  unfold takeL
  have : ((lkTwo e s).at 0).S ++ ((lkTwo e s).at 0).W.take n = (packL s).take n := by simp [lkTwo]
  simp only [this, pack_cut h1 hn]
  rfl
theorem take_all (e : Nat) (s : List UInt8) (h1 : 1 ≤ s.length) (h2 : s.length ≤ 900) : takeL (lkTwo e s) 0 1000 = ([s], 0, lk0 e) := by
  unfold takeL
  have hl := packL_len s
  have h3 : (packL s).take 1000 = packL s := List.take_of_length_le (by omega)
  have h4 : (packL s).drop 1000 = [] := List.drop_eq_nil_of_le (by omega)
  have : ((lkTwo e s).at 0).S ++ ((lkTwo e s).at 0).W.take 1000 = packL s ++ [] := by simp [lkTwo, h3]
  have hf := feedL_pack (s := s) ⟨h1, by omega⟩ []
  rw [feedL_nil] at hf
  simp only [this, hf]
  have : ((lkTwo e s).at 0).W.drop 1000 = [] := h4
  rw [this]; rfl
def lkBad (e : Nat) (s : List UInt8) (n : Nat) : Lk := ⟨⟨(packL s).drop n, (packL s).take n⟩, ⟨[0, 0, 0, 0], []⟩, e, 0⟩
theorem inj_bad (e : Nat) (s : List UInt8) (n : Nat) : injL (lkHalf e s n) 1 (⟨#[0, 0, 0, 0]⟩ : ByteArray).data.toList = (0, lkBad e s n) := by rfl
theorem feed_zero : feedL [0, 0, 0, 0] = ⟨[], [0, 0, 0, 0], some 0⟩ := feedL_bad (by simp [takeOf, num4, numL, errN])
theorem take_bad0 (e : Nat) (s : List UInt8) (n : Nat) : takeL (lkBad e s n) 1 4 = ([], 2, lk0 (e + 1)) := by
  unfold takeL
  have : ((lkBad e s n).at 1).S ++ ((lkBad e s n).at 1).W.take 4 = [0, 0, 0, 0] := by simp [lkBad]
  simp only [this, feed_zero]
  rfl

set_option maxRecDepth 100000 in
set_option maxHeartbeats 1000000 in
theorem resets_walk (s t : ByteArray) (n : Nat) (x : Bool) (b : Addr) (w : World) (hg : Gs b w) (hge : Ge w) (hs : s.size ≤ maxLen) (ht : t.size ≤ maxLen) (_hn : n < 256) :
    Calls Tryd.prog 5 #[.string s, .string t, .int .u8 (n : Int), .bool x] w fun e w' => e = .returned (.bool true) ∧ Below w.heap.size w w' := by
  unfold maxLen at hs ht
  obtain ⟨q, hq⟩ : ∃ q, n % 5 = q := ⟨_, rfl⟩
  have hq4 : q ≤ 4 := by omega
  have hqi : (n : Int) % 5 = (q : Int) := by omega
  obtain ⟨K1, hK1⟩ : ∃ K, min s.size 60 = K := ⟨_, rfl⟩
  have hKs1 : K1 ≤ s.size := by omega
  have hmk1 : (if (60 : Int) < (s.size : Int) then (60 : Int) else (s.size : Int)) = (K1 : Int) := by split <;> omega
  obtain ⟨S, hS⟩ : ∃ S : ByteArray, (⟨#[115]⟩ : ByteArray) ++ s.extract 0 K1 = S := ⟨_, rfl⟩
  have hSs : S.size = 1 + K1 := by rw [← hS]; exact cut_size s K1 hK1 115
  obtain ⟨K2, hK2⟩ : ∃ K, min t.size 60 = K := ⟨_, rfl⟩
  have hKs2 : K2 ≤ t.size := by omega
  have hmk2 : (if (60 : Int) < (t.size : Int) then (60 : Int) else (t.size : Int)) = (K2 : Int) := by split <;> omega
  obtain ⟨T, hT⟩ : ∃ T : ByteArray, (⟨#[116]⟩ : ByteArray) ++ t.extract 0 K2 = T := ⟨_, rfl⟩
  have hTs : T.size = 1 + K2 := by rw [← hT]; exact cut_size t K2 hK2 116
  have hk60 : K1 ≤ 60 ∧ K2 ≤ 60 := by omega
  have HS := Lib.hid (And.intro hmk1 (And.intro hS (And.intro (show 1 ≤ S.size ∧ S.size ≤ 61 by omega) hqi))); clear hmk1 hS hSs hK1 hq hqi
  have HT := Lib.hid (And.intro hmk2 (And.intro hT (And.intro (show 1 ≤ T.size ∧ T.size ≤ 61 by omega) hk60))); clear hmk2 hT hTs hK2 hk60
  have HG := Lib.hid (And.intro hg hge); clear hg hge
  go_enter Tryd.func5, Tryd.ntmps5
  go_wp2_with fail
  refine (examples_any b w HG.out.1 HG.out.2).mono ?_
  rintro e w1 ⟨rfl, hb1⟩
  have HB1 := Lib.hid hb1; clear hb1
  go_wp2_with fail
  refine (newLink_any b w.heap.size w1 HB1.out.size (HG.out.1.below HB1.out) (HG.out.2.below HB1.out) HG.out.2.2 HG.out.1.2).mono ?_
  rintro e w2 ⟨rfl, hl2, hk2⟩
  have HK2 := Lib.hid hk2; clear hk2
  have hmk1 := HS.out.1
  have hk60 := HT.out.2.2.2
  go_wp2_with fail
  clear hmk1 hk60
  rw [HS.out.2.1]
  refine (send_to hl2 0 (by omega) S (by have := HS.out.2.2.1; unfold maxLen; omega) (send_first 1 S.data.toList (by have := HS.out.2.2.1; show 1 ≤ S.size; omega) (by have := HS.out.2.2.1; show S.size ≤ 1000; omega))).mono ?_
  rintro e w3 ⟨rfl, hl3, hk3⟩
  have HK3 := Lib.hid (HK2.out.trans hk3); clear hk3 hl2
  have hqi := HS.out.2.2.2
  go_wp2_with fail
  clear hqi
  have hok : okM S.data.toList := by have := HS.out.2.2.1; show 1 ≤ S.size ∧ S.size ≤ 65536; omega
  refine (take_to (N := 0) hl3 (by show 1 ≤ 1000000; omega) 0 (by omega) q (by omega) (take_half 1 S.data.toList q hok (by have := HS.out.2.2.1; show q < 4 + S.size; omega)) rfl).mono ?_
  rintro e w4 ⟨aa, ca, rfl, hoa, hl4, hk4⟩
  have HK4 := Lib.hid (HK3.out.trans hk4); clear hk4 hl3 hoa hok
  cases x with
  | true =>
    go_wp2_with fail
    refine (inject_to hl4 1 (by omega) ⟨#[0, 0, 0, 0]⟩ (inj_bad 1 S.data.toList q)).mono ?_
    rintro e w45 ⟨rfl, hl45, hk45⟩
    go_wp2_with fail
    refine (take_to (N := 0) hl45 (by show 1 ≤ 1000000; omega) 1 (by omega) 4 (by omega) (take_bad0 1 S.data.toList q) rfl).mono ?_
    rintro e w5 ⟨ax, cx, rfl, hox, hl5, hk5'⟩
    have hk5 := HK4.out.trans (hk45.trans hk5')
    clear hk45 hk5' hl45 hl4 hox
    have HK5 := Lib.hid hk5; clear hk5
    go_wp2_with fail
    refine (take_to (N := 0) hl5 (by decide) 0 (by omega) 1000 (by omega) (show takeL (lk0 2) 0 1000 = ([], 0, lk0 2) from rfl) rfl).mono ?_
    rintro e w6 ⟨ab, cb, rfl, hob, hl6, hk6⟩
    clear hob hl5
    have HK6 := Lib.hid (HK5.out.trans hk6); clear hk6
    have hmk2 := HT.out.1
    have ht9 := HT.out.2.2.2
    go_wp2_with fail
    clear hmk2 ht9
    rw [HT.out.2.1]
    refine (send_to hl6 0 (by omega) T (by have := HT.out.2.2.1; unfold maxLen; omega) (send_first 2 T.data.toList (by have := HT.out.2.2.1; show 1 ≤ T.size; omega) (by have := HT.out.2.2.1; show T.size ≤ 1000; omega))).mono ?_
    rintro e w7 ⟨rfl, hl7, hk7⟩
    have HK7 := Lib.hid (HK6.out.trans hk7); clear hk7 hl6
    go_wp2_with fail
    refine (take_to (N := 1) hl7 (by show 2 ≤ 1000000; omega) 0 (by omega) 1000 (by omega) (take_all 2 T.data.toList (by have := HT.out.2.2.1; show 1 ≤ T.size; omega) (by have := HT.out.2.2.1; show T.size ≤ 900; omega)) rfl).mono ?_
    rintro e w8 ⟨ac, cc, rfl, hoc, hl8, hk8⟩
    have HK8 := Lib.hid (HK7.out.trans hk8); clear hk8 hl7
    obtain ⟨g8, rfl, hc8⟩ := strAt_own hoc 0 _ rfl
    rw [bytes_eta] at hc8
    clear hoc
    have hmk2 := HT.out.1
    have ht9 := HT.out.2.2.2
    have hT2 := HT.out.2.1
    have hmin2 : min (t.size : Int) 60 = (K2 : Int) := by rw [← hmk2]; omega
    have HE := Lib.hid (fun q => epoch_quiet (z := 2) hl8 rfl q)
    clear hl8
    go_wp2_with fail
    go_quiet (first | (go_at_call 14; exact Calls.quiet_of_same (HE.out _)))
    go_wp2
    go_ret
    exact ⟨rfl, (HB1.out.trans (HK8.out.below HB1.out.size)).trans (below_drewN' _)⟩
  | false =>
    go_wp2_with fail
    refine (reset_to (e := 2) hl4 rfl (by omega)).mono ?_
    rintro e w5 ⟨rfl, hl5, hk5'⟩
    have hk5 := HK4.out.trans hk5'
    clear hk5' hl4
    have HK5 := Lib.hid hk5; clear hk5
    go_wp2_with fail
    refine (take_to (N := 0) hl5 (by decide) 0 (by omega) 1000 (by omega) (show takeL (lk0 2) 0 1000 = ([], 0, lk0 2) from rfl) rfl).mono ?_
    rintro e w6 ⟨ab, cb, rfl, hob, hl6, hk6⟩
    clear hob hl5
    have HK6 := Lib.hid (HK5.out.trans hk6); clear hk6
    have hmk2 := HT.out.1
    have ht9 := HT.out.2.2.2
    go_wp2_with fail
    clear hmk2 ht9
    rw [HT.out.2.1]
    refine (send_to hl6 0 (by omega) T (by have := HT.out.2.2.1; unfold maxLen; omega) (send_first 2 T.data.toList (by have := HT.out.2.2.1; show 1 ≤ T.size; omega) (by have := HT.out.2.2.1; show T.size ≤ 1000; omega))).mono ?_
    rintro e w7 ⟨rfl, hl7, hk7⟩
    have HK7 := Lib.hid (HK6.out.trans hk7); clear hk7 hl6
    go_wp2_with fail
    refine (take_to (N := 1) hl7 (by show 2 ≤ 1000000; omega) 0 (by omega) 1000 (by omega) (take_all 2 T.data.toList (by have := HT.out.2.2.1; show 1 ≤ T.size; omega) (by have := HT.out.2.2.1; show T.size ≤ 900; omega)) rfl).mono ?_
    rintro e w8 ⟨ac, cc, rfl, hoc, hl8, hk8⟩
    have HK8 := Lib.hid (HK7.out.trans hk8); clear hk8 hl7
    obtain ⟨g8, rfl, hc8⟩ := strAt_own hoc 0 _ rfl
    rw [bytes_eta] at hc8
    clear hoc
    have hmk2 := HT.out.1
    have ht9 := HT.out.2.2.2
    have hT2 := HT.out.2.1
    have hmin2 : min (t.size : Int) 60 = (K2 : Int) := by rw [← hmk2]; omega
    have HE := Lib.hid (fun q => epoch_quiet (z := 2) hl8 rfl q)
    clear hl8
    go_wp2_with fail
    go_quiet (first | (go_at_call 14; exact Calls.quiet_of_same (HE.out _)))
    go_wp2
    go_ret
    exact ⟨rfl, (HB1.out.trans (HK8.out.below HB1.out.size)).trans (below_drewN' _)⟩
end Go.Proofs.YtkfbhiggnnjoiaaDoor
