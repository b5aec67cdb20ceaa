/- frame: a length, and what may be one. -/
import Derived.Test.YtkfbhiggnnjoiaaDoorChecked
import Derived.Test.YtkfbhiggnnjoiaaDoorFrPlain
import Derived.Test.YtkfbhiggnnjoiaaDoorAid
import Derived.WalkLawsBesides
import Derived.WalkSpells
import Derived.RowKitTokens
import Derived.Outline
import Derived.Lib.Hide
import Derived.IntWalk
import Derived.BigQuiet
import Derived.Deep.QuietTactic
import Derived.Lib.AppendStr
namespace Go.Proofs.YtkfbhiggnnjoiaaDoor
open Go.RowKit

abbrev bytesV (l : List UInt8) : List Value := l.map fun x => Value.int .u8 (x.toNat : Int)
/-- The bytes l stand from a on. -/
def BytesAt (w : World) (a : Option Addr) (l : List UInt8) : Prop := ∀ j x, l[j]? = some x → ∃ g o, a = some ⟨g, o, none⟩ ∧ w.cell? ⟨g, o + j, none⟩ = some (.int .u8 (x.toNat : Int))

theorem BytesAt.addr {w : World} {a : Option Addr} {l : List UInt8} (h : BytesAt w a l) (h1 : 1 ≤ l.length) : ∃ g o, a = some ⟨g, o, none⟩ := by
  obtain ⟨g, o, e, _⟩ := h 0 (l[0]'(by omega)) (List.getElem?_eq_getElem (by omega))
  exact ⟨g, o, e⟩
/-- What is wrong with a length. -/
def badV (n : Nat) : Value := .iface 84 (.agg #[.int .u64 (n : Int), .int .i64 ((errN n : Nat) : Int)])
set_option maxRecDepth 100000 in
theorem check_ok (n : Nat) (w : World) (h1 : 1 ≤ n) (h2 : n ≤ 65536) :
    Calls Tryd.prog 41 #[.int .u64 (n : Int)] w fun e w' => e = .returned .nilIface ∧ w = w' := by
  have e0 : ((n : Int) == 0) = false := by simp; omega
  have e1 : decide ((n : Int) > 65536) = false := by simp; omega
  go_enter Tryd.func41, Tryd.ntmps41
  go_wp2
  go_ret
  exact ⟨rfl, rfl⟩
set_option maxRecDepth 100000 in
theorem check_bad (n : Nat) (w : World) (h : errN n ≠ 0) :
    Calls Tryd.prog 41 #[.int .u64 (n : Int)] w fun e w' => e = .returned (badV n) ∧ w = w' := by
  by_cases h0 : n = 0
  · subst h0
    go_enter Tryd.func41, Tryd.ntmps41
    go_wp2
    go_ret
    exact ⟨rfl, rfl⟩
  · have h1 : 65536 < n := by
      rcases Nat.lt_or_ge 65536 n with h | h'
      · exact h
      · exact absurd (errN_zero.2 ⟨by omega, h'⟩) h
    have e0 : ((n : Int) == 0) = false := by simp; omega
    have e1 : (65536 : Int) < n := by omega
    have e2 : errN n = 3 := by unfold errN; rw [if_neg h0, if_pos h1]
    have E2 := Lib.hid e2; clear e2 h
    go_enter Tryd.func41, Tryd.ntmps41
    go_wp2
    go_ret
    exact ⟨by unfold badV; rw [E2.out]; rfl, rfl⟩

theorem or_byte {n x : Nat} (hn : n < 16777216) (hx : x < 256) : bits .or .u64 ((n : Int) * 256) (IntKind.u64.wrap (x : Int)) = ((n * 256 + x : Nat) : Int) := by
  rw [IntWalk.u64_in _ (by omega), show ((n : Int) * 256) = ((n * 256 : Nat) : Int) by omega, u64_or_nat _ _ (by omega) (by omega)]
  congr 1
  have := Nat.two_pow_add_eq_or_of_lt (i := 8) (b := x) (by omega) n
  rw [show n * 256 = 2 ^ 8 * n by omega, ← this]

set_option maxRecDepth 100000 in
set_option maxHeartbeats 1000000 in
theorem length_any (g o m c : Nat) (l : List UInt8) (w : World) (hm : l.length = m) (h4 : 4 ≤ m) (hc : m ≤ c) (hl : BytesAt w (some ⟨g, o, none⟩) l) :
    Calls Tryd.prog 52 #[.slice (some ⟨g, o, none⟩) m c] w fun e w' => e = .returned (.int .u64 (num4 l : Int)) ∧ w = w' := by
  have HM := Lib.hid hm; clear hm
  have HL := Lib.hid hl; clear hl
  have hc4 : 4 ≤ c := by omega
  go_enter Tryd.func52, Tryd.ntmps52
  go_wp2
  go_loop [3, 9] (fun n i => ∃ k : Nat, k ≤ 4 ∧ i = .int .i64 k ∧ n = .int .u64 (numL (l.take k) : Int)) (fun _ i => 4 - (intOf i).toNat)
  case atStart => exact ⟨0, by omega, rfl, rfl⟩
  case round =>
    obtain ⟨k, hk, rfl, rfl⟩ := hrel
    by_cases hlt : k < 4
    · have hkl : k < l.length := by have := HM.out; omega
      have hcell : w.cell? ⟨g, o + k, none⟩ = some (.int .u8 ((l[k]).toNat : Int)) := by
        obtain ⟨g', o', e, h⟩ := HL.out k l[k] (List.getElem?_eq_getElem hkl)
        cases e; exact h
      have hlt4 : numL (l.take k) < 16777216 := Nat.lt_of_lt_of_le (numL_lt _) (Nat.le_trans (Nat.pow_le_pow_right (by omega) (show (l.take k).length ≤ 3 by rw [List.length_take]; omega)) (by decide))
      have HO := Lib.hid (or_byte hlt4 (l[k]).toNat_lt)
      have HT := Lib.hid (numL_take hkl)
      go_wp2
      go_round
      case rel => exact ⟨k + 1, by omega, by go_num, by rw [HT.out, ← HO.out]⟩
      case measure => simp [intOf]; omega
    · obtain rfl : k = 4 := by omega
      go_wp2
      go_ret
      exact ⟨rfl, rfl⟩

/-- The variable errShort holds the sentinel at b. -/
def Gs (b : Addr) (w : World) : Prop := w.cell? ⟨1, 0, none⟩ = some (.iface 121 (.pointer (some b))) ∧ 1 < w.heap.size
theorem Gs.below {b : Addr} {w w' : World} (h : Gs b w) (hb : Below w.heap.size w w') : Gs b w' :=
  ⟨(hb.cell (p := ⟨1, 0, none⟩) h.2).trans h.1, Nat.lt_of_lt_of_le h.2 hb.size⟩
def shortV (b : Addr) : Value := .iface 121 (.pointer (some b))

set_option maxRecDepth 100000 in
set_option maxHeartbeats 1000000 in
theorem take_short (a : Option Addr) (m c : Nat) (l : List UInt8) (b : Addr) (w : World) (hm : l.length = m) (hc : m ≤ c) (hc2 : c ≤ maxLen) (hl : BytesAt w a l) (hg : Gs b w) (ht : takeOf l = .short) :
    Calls Tryd.prog 47 #[.slice a m c] w fun e w' => e = .returned (.tuple #[.string ⟨#[]⟩, shortV b]) ∧ ∃ n, w' = w.drewN n := by
  unfold maxLen at hc2
  have hg1 := hg.1
  by_cases h4 : m < 4
  · have HT := Lib.hid ht; clear ht
    have HM := Lib.hid hm; clear hm
    have h4' : (m : Int) < 4 := by omega
    go_enter Tryd.func47, Tryd.ntmps47
    go_wp2
    go_quiet (fail)
    go_wp2
    go_ret2
    exact ⟨rfl, _, rfl⟩
  · have h4' : ¬ (m : Int) < 4 := by omega
    obtain ⟨N, hN⟩ : ∃ N, N = num4 l := ⟨_, rfl⟩
    have hok : errN N = 0 ∧ m - 4 < N := by
      unfold takeOf at ht
      rw [if_neg (by omega)] at ht
      split at ht
      · split at ht
        · subst hN; exact ⟨‹_›, by omega⟩
        · cases ht
      · cases ht
    have hok2 := errN_zero.1 hok.1
    obtain ⟨g, o, rfl⟩ := hl.addr (by omega)
    have hlt : ((m : Int) - 4) < N := by omega
    have HH := Lib.hid (And.intro hm (And.intro hN hok)); clear hm hN hok ht
    go_enter Tryd.func47, Tryd.ntmps47
    go_wp2_with fail
    refine (length_any g o m c l w HH.out.1 (by omega) hc hl).mono ?_
    rintro e w' ⟨rfl, rfl⟩
    rw [← HH.out.2.1]
    go_wp2_with fail
    refine (check_ok N w hok2.1 hok2.2).mono ?_
    rintro e w' ⟨rfl, rfl⟩
    go_wp2
    go_quiet (fail)
    go_wp2
    go_ret2
    exact ⟨rfl, _, rfl⟩
set_option maxRecDepth 100000 in
set_option maxHeartbeats 1000000 in
theorem take_bad (a : Option Addr) (m c n : Nat) (l : List UInt8) (w : World) (hm : l.length = m) (hc : m ≤ c) (_hc2 : c ≤ maxLen) (hl : BytesAt w a l) (ht : takeOf l = .bad n) :
    Calls Tryd.prog 47 #[.slice a m c] w fun e w' => e = .returned (.tuple #[.string ⟨#[]⟩, badV n]) ∧ w = w' := by
  obtain ⟨h4, hn, he⟩ := takeOf_bad ht
  have h4' : ¬ (m : Int) < 4 := by omega
  obtain ⟨g, o, rfl⟩ := hl.addr (by omega)
  have HH := Lib.hid (And.intro hm (And.intro hn (And.intro he h4))); clear hm hn he ht h4
  go_enter Tryd.func47, Tryd.ntmps47
  go_wp2_with fail
  refine (length_any g o m c l w HH.out.1 (by have := HH.out.1; have := HH.out.2.2.2; omega) hc hl).mono ?_
  rintro e w' ⟨rfl, rfl⟩
  rw [HH.out.2.1]
  go_wp2_with fail
  refine (check_bad n w HH.out.2.2.1).mono ?_
  rintro e w' ⟨rfl, rfl⟩
  unfold badV
  go_wp2
  go_ret2
  exact ⟨rfl, rfl⟩
theorem addr_plus (g o j : Nat) : (⟨g, o, none⟩ : Addr).add j = ⟨g, o + j, none⟩ := by unfold Addr.add; split <;> simp_all
theorem conv_bytes {w : World} {g o c : Nat} {l : List UInt8} (hl : BytesAt w (some ⟨g, o, none⟩) l) :
    (convert 39 9 (.slice (some ⟨g, o, none⟩) l.length c)).run Tryd.prog w = .ok (.string ⟨l.toArray⟩) w := by
  refine run_convert_bytes_back w 39 9 5 ⟨g, o, none⟩ c l Tryd.underlying39 Tryd.underlying5 Tryd.underlying9 fun j hj => ?_
  obtain ⟨g', o', e, h⟩ := hl j l[j] (List.getElem?_eq_getElem hj)
  cases e
  rw [addr_plus]; exact h
theorem BytesAt.drop {w : World} {g o : Nat} {l : List UInt8} (h : BytesAt w (some ⟨g, o, none⟩) l) (k : Nat) : BytesAt w (some ⟨g, o + k, none⟩) (l.drop k) := by
  intro j x hx
  rw [List.getElem?_drop] at hx
  obtain ⟨g', o', e, hc⟩ := h (k + j) x hx
  cases e
  exact ⟨g, o + k, rfl, by rw [Nat.add_assoc]; exact hc⟩
theorem BytesAt.take {w : World} {a : Option Addr} {l : List UInt8} (h : BytesAt w a l) (k : Nat) : BytesAt w a (l.take k) := by
  intro j x hx
  rw [List.getElem?_take] at hx
  split at hx
  · exact h j x hx
  · cases hx
set_option maxRecDepth 100000 in
set_option maxHeartbeats 1000000 in
theorem take_msg (a : Option Addr) (m c : Nat) (l s : List UInt8) (w : World) (hm : l.length = m) (hc : m ≤ c) (hc2 : c ≤ maxLen) (hl : BytesAt w a l) (ht : takeOf l = .msg s) :
    Calls Tryd.prog 47 #[.slice a m c] w fun e w' => e = .returned (.tuple #[.string ⟨s.toArray⟩, .nilIface]) ∧ w = w' := by
  unfold maxLen at hc2
  obtain ⟨h1, h2, h3, h5, h6⟩ := takeOf_msg ht
  have h4' : ¬ (m : Int) < 4 := by omega
  obtain ⟨g, o, rfl⟩ := hl.addr (by omega)
  have hs : BytesAt w (some ⟨g, o + 4, none⟩) s := by rw [h6]; exact (hl.drop 4).take _
  have hconv := conv_bytes (c := c - 4) hs
  obtain ⟨N, hN⟩ : ∃ N, s.length = N := ⟨_, rfl⟩
  rw [hN] at hconv h5 h1 h2 h3
  have hlt : ¬ ((m : Int) - 4) < N := by omega
  have g1 : N + 4 ≤ m := by omega
  have HH := Lib.hid (And.intro hm (And.intro h5 (And.intro h6 h3))); clear hm h5 ht h6 h3 hN
  go_enter Tryd.func47, Tryd.ntmps47
  go_wp2_with fail
  refine (length_any g o m c l w HH.out.1 (by omega) hc hl).mono ?_
  rintro e w' ⟨rfl, rfl⟩
  rw [HH.out.2.1]
  go_wp2_with fail
  refine (check_ok N w h1 h2).mono ?_
  rintro e w' ⟨rfl, rfl⟩
  go_wp2
  go_ret2
  exact ⟨rfl, rfl⟩

set_option maxRecDepth 100000 in
theorem new_any (w : World) :
    Calls Tryd.prog 46 #[] w fun e w' => e = .returned (.pointer (some ⟨w.heap.size, 0, none⟩)) ∧ w' = w.alloc (.cells #[.slice none 0 0, .int .i64 0] 80) := by
  go_enter Tryd.func46, Tryd.ntmps46
  go_wp2
  go_ret
  exact ⟨rfl, rfl⟩

theorem u8_of (n k : Nat) (h : k = n % 256) : Value.int .u8 ((UInt8.ofNat n).toNat : Int) = Value.int .u8 (k : Int) := by
  subst h; simp
theorem head_at (n : Nat) (h : n ≤ 65536) (w : World) :
    BytesAt (w.alloc (.cells #[.int .u8 ((n : Int) / 16777216), .int .u8 ((n : Int) / 65536), .int .u8 ((n : Int) / 256 % 256), .int .u8 ((n : Int) % 256)] 89)) (some ⟨w.heap.size, 0, none⟩) (be4 n) := by
  intro j x hx
  refine ⟨w.heap.size, 0, rfl, ?_⟩
  rw [World.cell?_alloc_at _ _ _ _ (by simp), Nat.zero_add]
  have hj := (List.getElem?_eq_some_iff.1 hx).1
  rw [be4_len] at hj
  have h0 : ((n : Int) / 16777216) = ((n / 16777216 : Nat) : Int) := by omega
  have h1 : ((n : Int) / 65536) = ((n / 65536 : Nat) : Int) := by omega
  have h2 : ((n : Int) / 256 % 256) = ((n / 256 % 256 : Nat) : Int) := by omega
  have h3 : ((n : Int) % 256) = ((n % 256 : Nat) : Int) := by omega
  rw [h0, h1, h2, h3]
  match j, hj with
  | 0, _ => cases hx; exact congrArg some (u8_of _ _ (by omega)).symm
  | 1, _ => cases hx; exact congrArg some (u8_of _ _ (by omega)).symm
  | 2, _ => cases hx; exact congrArg some (u8_of _ _ (by omega)).symm
  | 3, _ => cases hx; exact congrArg some (u8_of _ _ (by omega)).symm
set_option maxRecDepth 100000 in
set_option maxHeartbeats 1000000 in
theorem head_any (n : Nat) (w : World) (h2 : n ≤ 65536) :
    Calls Tryd.prog 42 #[.int .i64 (n : Int)] w fun e w' => e = .returned (.string ⟨(be4 n).toArray⟩) ∧ Below w.heap.size w w' := by
  have hc := conv_bytes (c := 4) (head_at n h2 w)
  rw [be4_len] at hc
  go_enter Tryd.func42, Tryd.ntmps42
  go_wp2
  refine wp_loop_rounds 5 ?_
  rw [rounds_succ]
  go_wp2
  rw [rounds_succ]
  go_wp2
  rw [rounds_succ]
  go_wp2
  rw [rounds_succ]
  go_wp2
  rw [rounds_succ]
  go_wp2
  go_ret
  exact ⟨rfl, (Below.refl _ _).alloc (Nat.le_refl _) _⟩

theorem ok_bytes {s : ByteArray} (h : okM s.data.toList) : 1 ≤ s.size ∧ s.size ≤ 65536 := h
set_option maxRecDepth 100000 in
theorem pack_ok (s : ByteArray) (w : World) (h : okM s.data.toList) :
    Calls Tryd.prog 34 #[.string s] w fun e w' => e = .returned (.tuple #[.string ⟨(packL s.data.toList).toArray⟩, .bool true]) ∧ Below w.heap.size w w' := by
  obtain ⟨h1, h2⟩ := ok_bytes h
  obtain ⟨T, hT⟩ : ∃ T : ByteArray, T = ⟨(be4 s.size).toArray⟩ := ⟨_, rfl⟩
  have hT4 : T.size = 4 := by rw [hT]; rfl
  have HT := Lib.hid hT; clear hT
  have HT4 : T.size ≤ 4 := by omega
  clear h hT4
  go_enter Tryd.func34, Tryd.ntmps34
  go_wp2_with fail
  refine (check_ok s.size w h1 h2).mono ?_
  rintro e w' ⟨rfl, rfl⟩
  go_wp2_with fail
  refine (head_any s.size w h2).mono ?_
  rw [← HT.out]
  rintro e w' ⟨rfl, hb⟩
  go_wp2
  go_ret2
  refine ⟨?_, hb⟩
  have : T ++ s = ⟨(packL s.data.toList).toArray⟩ := by
    rw [HT.out]; apply ByteArray.ext; apply Array.toList_inj.1
    simp [packL]
  rw [this]; rfl
theorem no_bytes {s : ByteArray} (h : ¬ okM s.data.toList) : errN s.size ≠ 0 := by
  intro h0
  have h0 := errN_zero.1 h0
  exact h h0
set_option maxRecDepth 100000 in
theorem pack_no (s : ByteArray) (w : World) (hs : s.size ≤ maxLen) (h : ¬ okM s.data.toList) :
    Calls Tryd.prog 34 #[.string s] w fun e w' => e = .returned (.tuple #[.string ⟨#[]⟩, .bool false]) ∧ w = w' := by
  unfold maxLen at hs
  have HE := Lib.hid (no_bytes h); clear h
  go_enter Tryd.func34, Tryd.ntmps34
  go_wp2_with fail
  refine (check_bad s.size w HE.out).mono ?_
  rintro e w' ⟨rfl, rfl⟩
  unfold badV
  go_wp2
  go_ret2
  exact ⟨rfl, rfl⟩
end Go.Proofs.YtkfbhiggnnjoiaaDoor
