/- names: the reference's listed, with. names: the reference's Name. names: the reference's listed, with. names: Add, Drop. names: the chapter's examples. names: the reference's Of. names: the reference's Has, Empty, List; texts, same. names: plain facts on a few names' sets. names: the reference's Less. names: the reference's Union. -/
import Derived.Test.YtkjfafnnnkjoeaaGreatDoorNmPlain
import Derived.Test.YtkjfafnnnkjoeaaGreatDoorCkName
import Derived.Lib.Hide
import Derived.Test.YtkjfafnnnkjoeaaGreatDoorNmLater
import Derived.Test.YtkjfafnnnkjoeaaGreatDoorNmLess
import Derived.Test.YtkjfafnnnkjoeaaGreatDoorNmSame
import Derived.Test.YtkjfafnnnkjoeaaGreatDoorNmFew
import Derived.Deep.AppendLies
namespace Go.Proofs.YtkjfafnnnkjoeaaGreatDoor
open Go.Lib


/-- How many of l, at its head, lie ahead of x. -/
def ahead (x : List UInt8) : List (List UInt8) → Nat
  | [] => 0
  | y :: l => if y < x then ahead x l + 1 else 0
theorem ahead_le (x : List UInt8) : ∀ l : List (List UInt8), ahead x l ≤ l.length
  | [] => Nat.le_refl _
  | y :: l => by
    unfold ahead
    split
    · have := ahead_le x l; simp; omega
    · simp
theorem ahead_lt (x : List UInt8) : ∀ (l : List (List UInt8)) (j : Nat) (h : j < l.length), j < ahead x l → l[j] < x
  | [], j, h, _ => by simp at h
  | y :: l, j, h, hj => by
    unfold ahead at hj
    split at hj
    · rename_i hy
      cases j with
      | zero => exact hy
      | succ j => exact ahead_lt x l j (by simpa using h) (by omega)
    · omega
theorem ahead_stop (x : List UInt8) : ∀ (l : List (List UInt8)) (h : ahead x l < l.length), ¬ l[ahead x l] < x
  | [], h => by simp [ahead] at h
  | y :: l, h => by
    by_cases hy : y < x
    · have e : ahead x (y :: l) = ahead x l + 1 := by rw [ahead, if_pos hy]
      have h' : ahead x l < l.length := by rw [e] at h; simpa using h
      have := ahead_stop x l h'
      simp only [e, List.getElem_cons_succ]
      exact this
    · have e : ahead x (y :: l) = 0 := by rw [ahead, if_neg hy]
      simp only [e, List.getElem_cons_zero]
      exact hy
/-- Names, and one more, at its place. -/
def ins (l : List (List UInt8)) (x : List UInt8) : List (List UInt8) := if l.contains x = true then l else l.take (ahead x l) ++ [x] ++ l.drop (ahead x l)
theorem ins_mem (l : List (List UInt8)) (x y : List UInt8) : y ∈ ins l x ↔ y ∈ l ∨ y = x := by
  unfold ins
  split
  · rename_i h
    rw [List.contains_iff_mem] at h
    exact ⟨.inl, fun h' => h'.elim id (fun e => e ▸ h)⟩
  · rw [List.mem_append, List.mem_append, List.mem_singleton]
    have : y ∈ l ↔ y ∈ l.take (ahead x l) ∨ y ∈ l.drop (ahead x l) := by
      rw [← List.mem_append, List.take_append_drop]
    rw [this]
    constructor
    · rintro ((h | h) | h)
      · exact .inl (.inl h)
      · exact .inr h
      · exact .inl (.inr h)
    · rintro ((h | h) | h)
      · exact .inl (.inl h)
      · exact .inr h
      · exact .inl (.inr h)
theorem ins_len (l : List (List UInt8)) (x : List UInt8) : (ins l x).length ≤ l.length + 1 := by
  unfold ins
  split
  · omega
  · rw [List.length_append, List.length_append, List.length_take, List.length_drop]; simp; omega
theorem ins_rises {l : List (List UInt8)} (h : Rises l) (x : List UInt8) : Rises (ins l x) := by
  unfold ins
  split
  · exact h
  · rename_i hno
    rw [List.contains_iff_mem] at hno
    have hs : l.take (ahead x l) ++ l.drop (ahead x l) = l := List.take_append_drop _ _
    have hd : ∀ y ∈ l.drop (ahead x l), x < y := by
      intro y hy
      obtain ⟨i, hi, rfl⟩ := List.getElem_of_mem hy
      rw [List.getElem_drop]
      rw [List.length_drop] at hi
      have h0 := ahead_stop x l (by omega)
      have hx0 : x < l[ahead x l]'(by omega) := lt_of_le_ne (List.not_lt.1 h0) (fun e => hno (e ▸ List.getElem_mem _))
      by_cases hi0 : i = 0
      · subst hi0; exact hx0
      · exact List.lt_trans hx0 (List.pairwise_iff_getElem.1 h (ahead x l) (ahead x l + i) (by omega) (by omega) (by omega))
    have ht : ∀ y ∈ l.take (ahead x l), y < x := by
      intro y hy
      obtain ⟨i, hi, rfl⟩ := List.getElem_of_mem hy
      rw [List.getElem_take]
      rw [List.length_take] at hi
      exact ahead_lt x l i (by omega) (by omega)
    refine List.pairwise_append.2 ⟨List.pairwise_append.2 ⟨List.Pairwise.sublist (List.take_sublist _ _) h, List.pairwise_singleton _ _, fun a ha b hb => ?_⟩, List.Pairwise.sublist (List.drop_sublist _ _) h, fun a ha b hb => ?_⟩
    · obtain rfl := List.mem_singleton.1 hb; exact ht a ha
    · rcases List.mem_append.1 ha with ha | ha
      · exact List.lt_trans (ht a ha) (hd b hb)
      · obtain rfl := List.mem_singleton.1 ha; exact hd b hb
end Go.Proofs.YtkjfafnnnkjoeaaGreatDoor
namespace Go.Proofs.YtkjfafnnnkjoeaaGreatDoor
open Go.RowKit

set_option maxRecDepth 100000 in
set_option maxHeartbeats 2000000 in
theorem rname_any (s : ByteArray) (w : World) (hs0 : s.size ≤ maxLen) : Calls Tryz.prog 53 #[.string s] w fun e w' => e = .returned (.bool (nmOk s)) ∧ w = w' := by
  have hs : s.size ≤ 9223372036854775807 := by unfold maxLen at hs0; omega
  clear hs0
  go_enter Tryz.func53, Tryz.ntmps53
  go_wp2
  go_loop [3] (fun i => ∃ j : Nat, i = .int .i64 j ∧ j ≤ s.size ∧ ∀ i (hi : i < s.size), i < j → nmB (s[i].toNat : Int) = true) (fun i => s.size - (intOf i).toNat)
  case atStart => exact ⟨0, rfl, Nat.zero_le _, fun _ _ h => by omega⟩
  case round =>
    obtain ⟨j, rfl, hj, hr⟩ := hrel
    have HR := Lib.hid hr; clear hr
    by_cases hjs : j < s.size
    · obtain ⟨X, hX⟩ : ∃ X : Int, (s[j].toNat : Int) = X := ⟨_, rfl⟩
      have HX := Lib.hid hX
      by_cases g1 : X = 45 ∨ X = 46 ∨ X = 47
      · have HG := Lib.hid (show nmB X = true by rcases g1 with rfl | rfl | rfl <;> rfl)
        rcases g1 with rfl | rfl | rfl
        all_goals
          go_wp2
          exact ⟨⟨j + 1, by go_num, by omega, fun i hi h => by
            by_cases he : i = j
            · subst he; rw [HX.out]; exact HG.out
            · exact HR.out i hi (by omega)⟩, by simp [intOf]; omega⟩
      · have q1 : (X == 45) = false := by simp; omega
        have q2 : (X == 46) = false := by simp; omega
        have q3 : (X == 47) = false := by simp; omega
        obtain ⟨A, qa⟩ : ∃ A, decide (97 ≤ X) = A := ⟨_, rfl⟩
        obtain ⟨B, qb⟩ : ∃ B, decide (X ≤ 122) = B := ⟨_, rfl⟩
        obtain ⟨C, qc⟩ : ∃ C, decide (48 ≤ X) = C := ⟨_, rfl⟩
        obtain ⟨D, qd⟩ : ∃ D, decide (X ≤ 57) = D := ⟨_, rfl⟩
        have e : nmB X = (A && B || C && D) := by simp only [nmB, q1, q2, q3, qa, qb, qc, qd, Bool.false_or]
        have HE := Lib.hid e
        clear e g1
        by_cases hgood : (A && B || C && D) = true
        · have HG := Lib.hid hgood
          cases A <;> cases B <;> cases C <;> cases D <;> first | (exact absurd HG.out (by decide)) | skip
          all_goals
            clear hgood
            go_wp2
            exact ⟨⟨j + 1, by go_num, by omega, fun i hi h => by
              by_cases he : i = j
              · subst he; rw [HX.out, HE.out]; rfl
              · exact HR.out i hi (by omega)⟩, by simp [intOf]; omega⟩
        · have HG := Lib.hid hgood
          have HN := Lib.hid (nmOk_bad hjs (by rw [HX.out, HE.out]; simpa using hgood))
          cases A <;> cases B <;> cases C <;> cases D <;> first | (exact absurd rfl HG.out) | skip
          all_goals
            clear hgood
            go_wp2
            go_ret
            exact ⟨by rw [HN.out]; rfl, rfl⟩
    · have hg0 : ∀ i (hi : i < s.size), nmB (s[i].toNat : Int) = true := fun i hi => HR.out i hi (by omega)
      by_cases h1 : 1 ≤ s.size
      · by_cases h2 : s.size ≤ 64
        · have HN := Lib.hid (nmOk_good h1 h2 hg0)
          have HD := Lib.hid (show decide ((s.size : Int) ≤ 64) = true by simp; omega)
          clear hg0
          go_wp2
          go_ret
          exact ⟨by rw [HN.out]; exact congrArg (fun b => Ending.returned (Value.bool b)) HD.out, rfl⟩
        · have HN := Lib.hid (show nmOk s = false by simp [nmOk]; omega)
          have HD := Lib.hid (show decide ((s.size : Int) ≤ 64) = false by simp; omega)
          clear hg0
          go_wp2
          go_ret
          exact ⟨by rw [HN.out]; exact congrArg (fun b => Ending.returned (Value.bool b)) HD.out, rfl⟩
      · have HN := Lib.hid (show nmOk s = false by simp [nmOk]; omega)
        clear hg0
        go_wp2
        go_ret
        exact ⟨by rw [HN.out]; rfl, rfl⟩
end Go.Proofs.YtkjfafnnnkjoeaaGreatDoor
namespace Go.Proofs.YtkjfafnnnkjoeaaGreatDoor
open Go.RowKit Go.Lib

set_option maxRecDepth 100000 in
theorem listed_any {a : Option Addr} {c : Nat} {l : List (List UInt8)} {x : List UInt8} {w : World} {B : Bool} (h : TsAt w (.slice a l.length c) l) (hB : l.contains x = B) :
    Calls Tryz.prog 55 #[.slice a l.length c, .string ⟨x.toArray⟩] w fun e w' => e = .returned (.bool B) ∧ Below w.heap.size w w' := by
  obtain ⟨a', c', e', h1, h2, h3⟩ := h.out
  injection e' with e1 _ e3
  subst e1; subst e3
  have H3 := Lib.hid h3
  have HB := Lib.hid hB
  unfold maxLen at h2
  have hn63 : (l.length : Int) ≤ 9223372036854775807 := by omega
  clear h h3 hB
  go_enter Tryz.func55, Tryz.ntmps55
  go_wp2
  go_loopw [5] (fun i wr => ∃ j : Nat, j ≤ l.length ∧ i = .int .i64 j ∧ wr = w ∧ x ∉ l.take j) (fun i _ => l.length - (RowKit.intOf i).toNat)
  case atStart => exact ⟨0, Nat.zero_le _, rfl, rfl, by simp⟩
  case round =>
    obtain ⟨j, hj, rfl, rfl, hno⟩ := hrel
    have HNO := Lib.hid hno
    clear hno
    by_cases hlt : j < l.length
    · obtain ⟨y, hy⟩ : ∃ y, l[j]? = some y := ⟨_, List.getElem?_eq_getElem hlt⟩
      obtain ⟨b, off, rfl, hbl, hc⟩ := H3.out j hlt
      rw [(List.getElem?_eq_some_iff.1 hy).2] at hc
      have d1 : wr.cell? ⟨b, off + j, none⟩ = some (.string ⟨y.toArray⟩) := hc
      have b0 : (0 : Int) ≤ (j : Int) := by omega
      have b1 : (j : Int) < (l.length : Int) := by omega
      have ty : (⟨y.toArray⟩ : ByteArray).toList = y := by rw [ByteArray.toList_eq]
      have tx : (⟨x.toArray⟩ : ByteArray).toList = x := by rw [ByteArray.toList_eq]
      have HY := Lib.hid hy
      clear hc hy
      by_cases hxy : y = x
      · subst hxy
        have HT := Lib.hid (show B = true by rw [← HB.out]; exact List.contains_iff_mem.2 (List.mem_of_getElem? HY.out))
        go_wp2
        go_ret
        exact ⟨by rw [HT.out]; rfl, Below.refl _ _⟩
      · have hne : (y == x) = false := by simpa using hxy
        have HXY := Lib.hid (show x ∉ l.take (j + 1) by
          rw [List.take_add_one, HY.out]
          intro hm
          rcases List.mem_append.1 hm with hm | hm
          · exact HNO.out hm
          · simp at hm; exact hxy hm.symm)
        go_wp2_with fail
        go_roundw
        case rel => exact ⟨j + 1, by omega, by go_num, trivial, HXY.out⟩
        case measure => simp [RowKit.intOf]; omega
    · have HT := Lib.hid (show B = false by
        rw [← HB.out, Bool.eq_false_iff]
        intro hm
        have hE : l.take j = l := List.take_of_length_le (by omega)
        rw [List.contains_iff_mem, ← hE] at hm
        exact HNO.out hm)
      have b1 : ¬ (j : Int) < (l.length : Int) := by omega
      go_wp2
      go_ret
      exact ⟨by rw [HT.out]; rfl, Below.refl _ _⟩
theorem bl_of {x y : List UInt8} (h : y < x) : Op.bytesLess (⟨y.toArray⟩ : ByteArray).toList (⟨x.toArray⟩ : ByteArray).toList = true := by
  rw [ByteArray.toList_eq, ByteArray.toList_eq]
  show Op.bytesLess y x = true
  rw [bytesLess_eq, decide_eq_true h]
theorem bl_not {x y : List UInt8} (h : ¬ y < x) : Op.bytesLess (⟨y.toArray⟩ : ByteArray).toList (⟨x.toArray⟩ : ByteArray).toList = false := by
  rw [ByteArray.toList_eq, ByteArray.toList_eq]
  show Op.bytesLess y x = false
  rw [bytesLess_eq, decide_eq_false h]
theorem rows_take {w : World} {a : Option Addr} {c : Nat} {l : List (List UInt8)} (h : TsAt w (.slice a l.length c) l) (m : Nat) (hm : m ≤ l.length) :
    (tsV (l.take m)).length = m * 1 ∧ (a = none → m = 0) ∧ ∀ j u, (tsV (l.take m))[j]? = some u → ∃ B, a = some B ∧ w.cell? (B.add j) = some u := by
  obtain ⟨n1, n2, n3⟩ := ts_news h
  refine ⟨by rw [tsV_len, List.length_take]; omega, fun e => by have := n2 e; omega, fun j u hj => n3 j u ?_⟩
  have hjm : j < m := by have := (List.getElem?_eq_some_iff.1 hj).1; rw [tsV_len, List.length_take] at this; omega
  rw [← hj, tsV, tsV, List.getElem?_map, List.getElem?_map, List.getElem?_take, if_pos hjm]
theorem rows_sub {w : World} {b off c : Nat} {l : List (List UInt8)} (h : TsAt w (.slice (some ⟨b, off, none⟩) l.length c) l) (k m : Nat) (hk : k + m ≤ l.length) :
    (tsV ((l.drop k).take m)).length = m * 1 ∧ ((some ⟨b, off + k, none⟩ : Option Addr) = none → m = 0) ∧ ∀ j u, (tsV ((l.drop k).take m))[j]? = some u → ∃ B, (some ⟨b, off + k, none⟩ : Option Addr) = some B ∧ w.cell? (B.add j) = some u := by
  obtain ⟨n1, _, n3⟩ := ts_news h
  refine ⟨by rw [tsV_len, List.length_take, List.length_drop]; omega, fun e => (by cases e), fun j u hj => ⟨_, rfl, ?_⟩⟩
  have hjm : j < m := by have := (List.getElem?_eq_some_iff.1 hj).1; rw [tsV_len, List.length_take] at this; omega
  have e : (tsV l)[k + j]? = some u := by
    rw [← hj, tsV, tsV, List.getElem?_map, List.getElem?_map, List.getElem?_take, if_pos hjm, List.getElem?_drop]
  obtain ⟨B, hB, hc⟩ := n3 (k + j) u e
  obtain rfl := Option.some.inj hB
  have q1 : (⟨b, off + k, none⟩ : Addr).add j = ⟨b, off + k + j, none⟩ := by unfold Addr.add; split <;> simp_all
  have q2 : (⟨b, off, none⟩ : Addr).add (k + j) = ⟨b, off + (k + j), none⟩ := by unfold Addr.add; split <;> simp_all
  rw [q1, Nat.add_assoc, ← q2]; exact hc

set_option maxRecDepth 100000 in
set_option maxHeartbeats 4000000 in
theorem with_any {a : Option Addr} {c : Nat} {l : List (List UInt8)} {x : List UInt8} {w : World} (h : TsAt w (.slice a l.length c) l) (hz : (l.length + 1) * 16 ≤ 140737488355328) :
    Calls Tryz.prog 54 #[.slice a l.length c, .string ⟨x.toArray⟩] w fun e w' => ∃ a' c', e = .returned (.slice a' (ins l x).length c') ∧ TsAt w' (.slice a' (ins l x).length c') (ins l x) ∧ Below w.heap.size w w' := by
  have H := Lib.hid h
  obtain ⟨B, hB⟩ : ∃ B, l.contains x = B := ⟨_, rfl⟩
  have hcc : l.length ≤ c ∧ c ≤ 9223372036854775807 := by
    obtain ⟨a', c', e', h1, h2, _⟩ := h.out
    injection e' with _ _ e3
    subst e3; unfold maxLen at h2; omega
  have HB := Lib.hid hB
  cases B with
  | true =>
    clear h
    have hi : ins l x = l := by unfold ins; rw [if_pos hB]
    rw [hi]
    clear hB hi
    go_enter Tryz.func54, Tryz.ntmps54
    go_wp2_with fail
    refine (listed_any H.out HB.out).mono ?_
    rintro e w1 ⟨rfl, hb1⟩
    go_wp2_with fail
    go_ret
    exact ⟨_, _, rfl, H.out.later hb1, hb1⟩
  | false =>
    obtain ⟨K, hK⟩ : ∃ K, ahead x l = K := ⟨_, rfl⟩
    have hKl : K ≤ l.length := by rw [← hK]; exact ahead_le x l
    have hins : ins l x = l.take K ++ [x] ++ l.drop K := by unfold ins; rw [if_neg (by rw [hB]; simp), hK]
    have HI := Lib.hid hins
    have HK := Lib.hid hK
    obtain ⟨i0, hi, hz0, hz1, hz2⟩ := info_parts Tryz.infoStr
    have hn63 : (l.length : Int) ≤ 9223372036854775807 := by omega
    have hc63 : (c : Int) ≤ 9223372036854775807 := by omega
    clear h hB hK hins
    go_enter Tryz.func54, Tryz.ntmps54
    go_wp2_with fail
    refine (listed_any H.out HB.out).mono ?_
    rintro e w1 ⟨rfl, hb1⟩
    have H1 := Lib.hid (H.out.later hb1)
    have hs1 := hb1.size
    have HB1 := Lib.hid hb1
    clear hb1
    go_wp2_with fail
    go_loopw [6] (fun i wr => ∃ j : Nat, j ≤ K ∧ i = .int .i64 j ∧ wr = w1) (fun i _ => l.length - (RowKit.intOf i).toNat)
    case atStart => exact ⟨0, Nat.zero_le _, rfl, rfl⟩
    case round =>
      obtain ⟨j, hj, rfl, rfl⟩ := hrel
      by_cases hjK : j < K
      · have hlt : j < l.length := by omega
        obtain ⟨a', c', e', _, _, h3⟩ := H1.out.out
        injection e' with e1 _ e3
        subst e1; subst e3
        obtain ⟨b, off, rfl, hbl, hc⟩ := h3 j hlt
        have hyx : l[j] < x := ahead_lt x l j hlt (by rw [HK.out]; exact hjK)
        obtain ⟨y, hy⟩ : ∃ y, l[j] = y := ⟨_, rfl⟩
        rw [hy] at hc hyx
        have d1 : wr.cell? ⟨b, off + j, none⟩ = some (.string ⟨y.toArray⟩) := hc
        have hbl' : Op.bytesLess y x = true := by rw [bytesLess_eq, decide_eq_true hyx]
        have ty : (⟨y.toArray⟩ : ByteArray).toList = y := by rw [ByteArray.toList_eq]
        have tx : (⟨x.toArray⟩ : ByteArray).toList = x := by rw [ByteArray.toList_eq]
        have b0 : (0 : Int) ≤ (j : Int) := by omega
        have b1 : (j : Int) < (l.length : Int) := by omega
        clear hc hy hyx h3
        go_wp2_with fail
        go_roundw
        case rel => exact ⟨j + 1, by omega, by go_num, trivial⟩
        case measure => simp [RowKit.intOf]; omega
      · obtain rfl : j = K := by omega
        have b0 : (0 : Int) ≤ (j : Int) := by omega
        have hjc : (j : Int) ≤ (c : Int) := by omega
        have hjl : (j : Int) ≤ (l.length : Int) := by omega
        by_cases hlt : j < l.length
        · obtain ⟨a', c', e', _, _, h3⟩ := H1.out.out
          injection e' with e1 _ e3
          subst e1; subst e3
          obtain ⟨b, off, rfl, hbl, hc⟩ := h3 j hlt
          have hyx : ¬ l[j] < x := by
            have := ahead_stop x l (by rw [HK.out]; exact hlt)
            simp only [HK.out] at this
            exact this
          obtain ⟨y, hy⟩ : ∃ y, l[j] = y := ⟨_, rfl⟩
          rw [hy] at hc hyx
          have d1 : wr.cell? ⟨b, off + j, none⟩ = some (.string ⟨y.toArray⟩) := hc
          have hbl' : Op.bytesLess y x = false := by rw [bytesLess_eq, decide_eq_false hyx]
          have ty : (⟨y.toArray⟩ : ByteArray).toList = y := by rw [ByteArray.toList_eq]
          have tx : (⟨x.toArray⟩ : ByteArray).toList = x := by rw [ByteArray.toList_eq]
          have b1 : (j : Int) < (l.length : Int) := by omega
          obtain ⟨n1, n2, n3⟩ := rows_take H1.out j (by omega)
          clear hc hy hyx h3
          go_wp2_with (at_builtin; go_must (first
            | (refine wpList_append_row _ rfl _ _ 27 rfl w.heap.size 9 i0 _ 1 16 Tryz.underlying27 hi hz0 hz1 hz2 rfl (by omega) _ _ _ rfl (World.ownsRow_nil _ _ _ _) _ j _ (tsV (l.take j)) rfl n1 n2 n3 (tsV_one _) (by unfold maxLen; omega) (by omega) (by omega) ?_; intro v2 w2 hown2 hgrow2
               rw [Nat.zero_add, List.nil_append] at hown2
               have hb2 : Below w.heap.size w w2 := HB1.out.grown hgrow2 hs1 (fun j hj => by cases hj)
               have hs2 := hb2.size
               have hnew := heap_alloc_new w2 (.cells #[.string ⟨x.toArray⟩] 9))
            | (refine wpList_append_own _ rfl _ _ 27 rfl w.heap.size 9 i0 _ 1 16 Tryz.underlying27 hi hz0 hz1 hz2 rfl (by omega) _ _ _ rfl (hown2.alloc _) ⟨w2.heap.size, 0, none⟩ 1 1 (tsV [x]) rfl rfl (World.news_of_block (cs := #[.string ⟨x.toArray⟩]) (t := 9) (fr := (0, 0)) hnew) (tsV_one _) (by unfold maxLen; omega) (by omega) (by simp; omega) ?_; intro v3 w3 hown3 hgrow3 _
               have hb3 : Below w.heap.size w w3 := (hb2.alloc hs2 _).grown hgrow3 (by simp; omega) (fun j hj => (hown2.lt j hj).1)
               have hs3 := hb3.size
               obtain ⟨m1, m2, m3⟩ := rows_sub (H.out.later hb3) j (l.length - j) (by omega))
            | (refine wpList_append_row _ rfl _ _ 27 rfl w.heap.size 9 i0 _ 1 16 Tryz.underlying27 hi hz0 hz1 hz2 rfl (by omega) _ _ _ rfl hown3 _ (l.length - j) _ (tsV ((l.drop j).take (l.length - j))) rfl m1 m2 m3 (tsV_one _) (by unfold maxLen; omega) (by omega) (by omega) ?_; intro v4 w4 hown4 hgrow4)))
          obtain ⟨a4, c4, rfl⟩ := owns_slice hown4
          have hb4 : Below w.heap.size w w4 := hb3.grown hgrow4 hs3 (fun j hj => (hown3.lt j hj).1)
          go_wp2_with fail
          go_ret
          have e1 : (l.drop j).take (l.length - j) = l.drop j := List.take_of_length_le (by rw [List.length_drop]; omega)
          have e2 : (ins l x).length = j + 1 + (l.length - j) := by rw [HI.out, List.length_append, List.length_append, List.length_take, List.length_drop, Nat.min_eq_left hKl]; rfl
          rw [e1, ← tsV_append, ← tsV_append, ← HI.out, ← e2] at hown4
          rw [← e2]
          exact ⟨_, _, rfl, RowV.own hown4, hb4⟩
        · have hje : j = l.length := by omega
          have b1 : ¬ (j : Int) < (l.length : Int) := by omega
          obtain ⟨n1, n2, n3⟩ := rows_take H1.out j (by omega)
          have HJE := Lib.hid hje
          clear hje hlt
          go_wp2_with (at_builtin; go_must (first
            | (refine wpList_append_row _ rfl _ _ 27 rfl w.heap.size 9 i0 _ 1 16 Tryz.underlying27 hi hz0 hz1 hz2 rfl (by omega) _ _ _ rfl (World.ownsRow_nil _ _ _ _) _ j _ (tsV (l.take j)) rfl n1 n2 n3 (tsV_one _) (by unfold maxLen; omega) (by omega) (by omega) ?_; intro v2 w2 hown2 hgrow2
               rw [Nat.zero_add, List.nil_append] at hown2
               have hb2 : Below w.heap.size w w2 := HB1.out.grown hgrow2 hs1 (fun j hj => by cases hj)
               have hs2 := hb2.size
               have hnew := heap_alloc_new w2 (.cells #[.string ⟨x.toArray⟩] 9))
            | (refine wpList_append_own _ rfl _ _ 27 rfl w.heap.size 9 i0 _ 1 16 Tryz.underlying27 hi hz0 hz1 hz2 rfl (by omega) _ _ _ rfl (hown2.alloc _) ⟨w2.heap.size, 0, none⟩ 1 1 (tsV [x]) rfl rfl (World.news_of_block (cs := #[.string ⟨x.toArray⟩]) (t := 9) (fr := (0, 0)) hnew) (tsV_one _) (by unfold maxLen; omega) (by omega) (by simp; omega) ?_; intro v3 w3 hown3 hgrow3 _
               have hb3 : Below w.heap.size w w3 := (hb2.alloc hs2 _).grown hgrow3 (by simp; omega) (fun j hj => (hown2.lt j hj).1)
               have hs3 := hb3.size
               have m1 : (tsV []).length = (l.length - j) * 1 := by have := HJE.out; simp [tsV]; omega)
            | (refine wpList_append_row _ rfl _ _ 27 rfl w.heap.size 9 i0 _ 1 16 Tryz.underlying27 hi hz0 hz1 hz2 rfl (by omega) _ _ _ rfl hown3 _ (l.length - j) _ (tsV []) rfl m1 (fun _ => by have := HJE.out; omega) (fun j u h => by simp [tsV] at h) (tsV_one _) (by unfold maxLen; omega) (by omega) (by omega) ?_; intro v4 w4 hown4 hgrow4)))
          all_goals
            obtain ⟨a4, c4, rfl⟩ := owns_slice hown4
            have hb4 : Below w.heap.size w w4 := hb3.grown hgrow4 hs3 (fun j hj => (hown3.lt j hj).1)
            go_wp2_with fail
            go_ret
            have e2 : (ins l x).length = j + 1 + (l.length - j) := by rw [HI.out, List.length_append, List.length_append, List.length_take, List.length_drop, Nat.min_eq_left hKl]; rfl
            have e1 : l.take j ++ [x] ++ [] = ins l x := by rw [HI.out, List.drop_of_length_le (by have := HJE.out; omega)]
            rw [← tsV_append, ← tsV_append, e1, ← e2] at hown4
            rw [← e2]
            exact ⟨_, _, rfl, RowV.own hown4, hb4⟩
end Go.Proofs.YtkjfafnnnkjoeaaGreatDoor
namespace Go.Proofs.YtkjfafnnnkjoeaaGreatDoor
open Go.RowKit Go.Lib

/-- A set in a box, behind w. -/
def L1 (w : World) (aa : Bool) (av : Value) (w' : World) : Prop :=
  w'.cell? ⟨w.heap.size, 0, none⟩ = some (.bool aa) ∧ w'.cell? ⟨w.heap.size, 1, none⟩ = some av ∧ w.heap.size + 1 < w'.heap.size ∧ Below w.heap.size w w'
theorem L1.later {w w1 w2 : World} {aa : Bool} {av : Value} (h : L1 w aa av w1) (hb : Below w1.heap.size w1 w2) : L1 w aa av w2 := by
  obtain ⟨h0, h1, h4, h5⟩ := h
  exact ⟨(hb.cell (p := ⟨_, _, none⟩) (by show w.heap.size < _; omega)).trans h0, (hb.cell (p := ⟨_, _, none⟩) (by show w.heap.size < _; omega)).trans h1, Nat.lt_of_lt_of_le h4 hb.size, h5.trans (hb.mono h5.size)⟩
theorem L1.set {w w1 : World} {aa : Bool} {av : Value} (h : L1 w aa av w1) (u0 u1 : Value) : L1 w aa av ((w1.setCell ⟨w.heap.size + 1, 0, none⟩ u0).setCell ⟨w.heap.size + 1, 1, none⟩ u1) := by
  obtain ⟨h0, h1, h4, h5⟩ := h
  refine ⟨?_, ?_, by simp only [World.size_setCell]; exact h4, below_set2 h5 (by omega) _ _⟩
  all_goals
    rw [World.cell?_setCell_other _ _ _ _ (by simp), World.cell?_setCell_other _ _ _ _ (by simp)]
    assumption
/-- What is added, or dropped, is of both. -/
def AddFit (al l : List (List UInt8)) : Prop := NmFit al ∧ NmFit l ∧ (al.length + l.length) * 16 ≤ 140737488355328
theorem of_fit {l : List (List UInt8)} {sa : Bool} {sl : List (List UInt8)} (h : NmFit l) (he : nOf okN l = ⟨sa, sl⟩) : NmFit sl ∧ sl.length ≤ l.length := by
  have e : sl = srt (l.filter okN) := (congrArg Ns.ns he).symm
  have h1 : sl.length ≤ l.length := by rw [e]; exact Nat.le_trans (srt_len _) (List.length_filter_le _ _)
  refine ⟨⟨fun s hs => ?_, ?_⟩, h1⟩
  · rw [e, srt_mem, List.mem_filter] at hs
    exact h.1 s hs.1
  · have := h.2; omega

end Go.Proofs.YtkjfafnnnkjoeaaGreatDoor
namespace Go.Proofs.YtkjfafnnnkjoeaaGreatDoor
open Go.RowKit Go.Lib

/-- A text in memory. -/
def CellAt (w : World) (b o : Nat) (v : Value) : Prop := b < w.heap.size ∧ w.cell? ⟨b, o, none⟩ = some v
theorem CellAt.later {w w' : World} {b o : Nat} {v : Value} (h : CellAt w b o v) (hb : Below w.heap.size w w') : CellAt w' b o v := ⟨Nat.lt_of_lt_of_le h.1 hb.size, (hb.cell (p := ⟨b, o, none⟩) h.1).trans h.2⟩
theorem ts_block {w : World} {B : Nat} {cs : Array Value} {l : List (List UInt8)} (hb : Blk w B cs 9) (hn : cs.size ≤ maxLen) (hl : cs.toList = tsV l) : TsAt w (.slice (some ⟨B, 0, none⟩) cs.size cs.size) l := by
  have e : cs.size = (tsV l).length := by rw [← hl]; simp
  refine ⟨_, cs.size, by rw [e], by rw [e]; exact Nat.le_refl _, hn, fun j u hj => ⟨B, 0, rfl, hb.lt, ?_⟩⟩
  rw [Nat.zero_add, hb.cell j, ← Array.getElem?_toList, hl]
  exact hj
theorem ex_s : nOf okN [[98], [97], [98], [42], [88]] = ⟨true, [[97], [98]]⟩ := by
  have e : ([[98], [97], [98], [42], [88]] : List (List UInt8)).filter okN = [[98], [97], [98]] := by decide
  refine ns_eq (by decide) ?_
  show srt _ = _
  rw [e]
  refine srt_eq (by unfold Rises; decide) (fun x => by simp only [List.mem_cons, List.not_mem_nil, or_false]; exact ⟨by rintro (h | h | h) <;> simp [h], by rintro (h | h) <;> simp [h]⟩)
theorem ex_t : nOf okN [[97]] = ⟨false, [[97]]⟩ := by
  have e : ([[97]] : List (List UInt8)).filter okN = [[97]] := by decide
  refine ns_eq (by decide) ?_
  show srt _ = _
  rw [e]
  exact srt_self (by unfold Rises; decide)
theorem ex_u : nUnion [⟨true, [[97], [98]]⟩, ⟨false, [[97]]⟩] = ⟨true, [[97], [98]]⟩ := by
  refine ns_eq (by decide) ?_
  show srt _ = _
  refine srt_eq (by unfold Rises; decide) (fun x => by simp only [List.flatMap_cons, List.flatMap_nil, List.mem_append, List.mem_cons, List.not_mem_nil, or_false]; exact ⟨by rintro ((h | h) | h) <;> simp [h], by rintro (h | h) <;> simp [h]⟩)
theorem ex_same : nSame ⟨true, [[97], [98]]⟩ ⟨true, [[97], [98]]⟩ = true := nSame_self rfl (fun _ => Iff.rfl)
theorem ex_h1 : nHas okN ⟨true, [[97], [98]]⟩ [122, 122] = true := by decide
theorem ex_h2 : nHas okN ⟨true, [[97], [98]]⟩ [88] = false := by decide
theorem ex_h3 : nHas okN ⟨false, [[97]]⟩ [98] = false := by decide
theorem ex_h4 : nHas okN ⟨false, [[97]]⟩ [97] = true := by decide
theorem fitK {l : List (List UInt8)} (n : Nat) (h : (∀ s ∈ l, s.length ≤ n) ∧ l.length ≤ n) (hn : n ≤ 1000) : NmFit l := ⟨fun s hs => by have := h.1 s hs; unfold maxLen; omega, by have := h.2; omega⟩
theorem ex_l : nList ⟨true, [[97], [98]]⟩ = [[42], [97], [98]] := rfl
theorem ex_fu : NssFit [⟨true, [[97], [98]]⟩, ⟨false, [[97]]⟩] := by
  refine ⟨fun s hs x hx => ?_, by decide, by decide⟩
  have h1 : ∀ s ∈ ([⟨true, [[97], [98]]⟩, ⟨false, [[97]]⟩] : List Ns), ∀ x ∈ s.ns, x.length ≤ 1 := by decide
  have := h1 s hs x hx
  unfold maxLen; omega
end Go.Proofs.YtkjfafnnnkjoeaaGreatDoor
namespace Go.Proofs.YtkjfafnnnkjoeaaGreatDoor
open Go.RowKit Go.Lib

theorem of_ext {l : List (List UInt8)} {sa : Bool} {ns : List (List UInt8)} (h1 : sa = l.contains [42]) (h2 : Rises ns) (h3 : ∀ x, x ∈ ns ↔ x ∈ l ∧ okN x = true) : nOf okN l = ⟨sa, ns⟩ := by
  refine ns_eq h1.symm ?_
  refine rises_eq (srt_rises _) h2 fun x => ?_
  show x ∈ srt _ ↔ _
  rw [srt_mem, List.mem_filter, h3]
/-- What the loop holds. -/
structure Ro (w : World) (R : Nat) (l : List (List UInt8)) (k : Nat) (sa : Bool) (ns : List (List UInt8)) (a : Option Addr) (c : Nat) (wr : World) : Prop where
  box : Blk wr (R + 1) #[.bool sa, .slice a ns.length c] 29
  res : Blk wr R #[.bool false, .slice none 0 0] 29
  ts : TsAt wr (.slice a ns.length c) ns
  all : sa = (l.take k).contains [42]
  rises : Rises ns
  mem : ∀ x, x ∈ ns ↔ x ∈ l.take k ∧ okN x = true
  len : ns.length ≤ k
  bel : Below w.heap.size w wr
theorem take_mem {l : List (List UInt8)} {k : Nat} {y : List UInt8} (h : l[k]? = some y) (x : List UInt8) : x ∈ l.take (k + 1) ↔ x ∈ l.take k ∨ x = y := by
  rw [List.take_add_one, h, List.mem_append]; simp
theorem Ro.skip {w : World} {R : Nat} {l : List (List UInt8)} {k : Nat} {sa : Bool} {ns : List (List UInt8)} {a : Option Addr} {c : Nat} {wr : World} (h : Ro w R l k sa ns a c wr) {y : List UInt8} (hy : l[k]? = some y) (h1 : y ≠ [42]) (h2 : okN y = false) : Ro w R l (k + 1) sa ns a c wr :=
  { h with
    all := by rw [h.all, Bool.eq_iff_iff, List.contains_iff_mem, List.contains_iff_mem, take_mem hy]; exact ⟨.inl, fun h => h.elim id (fun e => absurd e.symm h1)⟩
    mem := fun x => by rw [h.mem, take_mem hy]; exact ⟨fun h => ⟨.inl h.1, h.2⟩, fun h => ⟨h.1.elim id (fun e => by rw [e, h2] at h; cases h.2), h.2⟩⟩
    len := Nat.le_succ_of_le h.len }
theorem Ro.star {w : World} {R : Nat} {l : List (List UInt8)} {k : Nat} {sa : Bool} {ns : List (List UInt8)} {a : Option Addr} {c : Nat} {wr : World} (h : Ro w R l k sa ns a c wr) (hy : l[k]? = some [42]) (hR : w.heap.size ≤ R) : Ro w R l (k + 1) true ns a c (wr.setCell ⟨R + 1, 0, none⟩ (.bool true)) where
  box := h.box.set 0 _
  res := (heap_setCell_other _ _ _ _ (by simp)).trans h.res
  ts := h.ts.set _ (h.box.cell 0) (fun s e => by cases e)
  all := by symm; rw [List.contains_iff_mem, take_mem hy]; exact .inr rfl
  rises := h.rises
  mem := fun x => by rw [h.mem, take_mem hy]; exact ⟨fun h => ⟨.inl h.1, h.2⟩, fun h => ⟨h.1.elim id (fun e => by rw [e] at h; exact absurd h.2 (by decide)), h.2⟩⟩
  len := Nat.le_succ_of_le h.len
  bel := h.bel.setCell (p := ⟨R + 1, 0, none⟩) (by show w.heap.size ≤ R + 1; omega) _
theorem Ro.add {w : World} {R : Nat} {l : List (List UInt8)} {k : Nat} {sa : Bool} {ns : List (List UInt8)} {a : Option Addr} {c : Nat} {wr w' : World} (h : Ro w R l k sa ns a c wr) {y : List UInt8} (hy : l[k]? = some y) (h1 : y ≠ [42]) (h2 : okN y = true) (hR : w.heap.size ≤ R)
    {a' : Option Addr} {c' : Nat} (ht : TsAt w' (.slice a' (ins ns y).length c') (ins ns y)) (hb : Below wr.heap.size wr w') : Ro w R l (k + 1) sa (ins ns y) a' c' (w'.setCell ⟨R + 1, 1, none⟩ (.slice a' (ins ns y).length c')) where
  box := (h.box.below hb h.box.lt).set 1 _
  res := (heap_setCell_other _ _ _ _ (by simp)).trans (h.res.below hb h.res.lt)
  ts := ht.set _ ((h.box.below hb h.box.lt).cell 1) (fun s e => by cases e)
  all := by rw [h.all, Bool.eq_iff_iff, List.contains_iff_mem, List.contains_iff_mem, take_mem hy]; exact ⟨.inl, fun h => h.elim id (fun e => absurd e.symm h1)⟩
  rises := ins_rises h.rises y
  mem := fun x => by
    rw [ins_mem, h.mem, take_mem hy]
    constructor
    · rintro (h | rfl)
      · exact ⟨.inl h.1, h.2⟩
      · exact ⟨.inr rfl, h2⟩
    · rintro ⟨h | h, h3⟩
      · exact .inl ⟨h, h3⟩
      · exact .inr h
  len := Nat.le_trans (ins_len ns y) (by have := h.len; omega)
  bel := (h.bel.trans (hb.mono h.bel.size)).setCell (p := ⟨R + 1, 1, none⟩) (by show w.heap.size ≤ R + 1; omega) _
theorem rname_is {s : ByteArray} {w : World} {B : Bool} (hs : s.size ≤ maxLen) (hB : nmOk s = B) : Calls Tryz.prog 53 #[.string s] w fun e w' => e = .returned (.bool B) ∧ w' = w := by
  subst hB
  exact (rname_any s w hs).mono (by rintro e w' ⟨rfl, rfl⟩; exact ⟨rfl, rfl⟩)

set_option maxRecDepth 100000 in
set_option maxHeartbeats 4000000 in
theorem refOf_any {a : Option Addr} {c : Nat} {l : List (List UInt8)} {w : World} {sa : Bool} {sl : List (List UInt8)} (h : TsAt w (.slice a l.length c) l) (hf : NmFit l) (hz : (l.length + 1) * 16 ≤ 140737488355328) (he : nOf okN l = ⟨sa, sl⟩) :
    Calls Tryz.prog 35 #[.slice a l.length c] w (SetPost sa sl w) := by
  have H := Lib.hid h
  have HF := Lib.hid hf
  have HE := Lib.hid he
  obtain ⟨R, hR⟩ : ∃ R, w.heap.size = R := ⟨_, rfl⟩
  have HR := Lib.hid hR
  have D0 : Ro w R l 0 false [] none 0 ((w.alloc (.cells #[.bool false, .slice none 0 0] 29)).alloc (.cells #[.bool false, .slice none 0 0] 29)) := by
    have b0 := (Blk.new w #[.bool false, .slice none 0 0] 29).later ((Below.refl _ _).alloc (Nat.le_refl _) (.cells #[.bool false, .slice none 0 0] 29))
    have b1 := Blk.new (w.alloc (.cells #[.bool false, .slice none 0 0] 29)) #[.bool false, .slice none 0 0] 29
    rw [World.size_alloc] at b1
    rw [hR] at b0 b1
    exact ⟨b1, b0, RowV.nil _ _ _ (Nat.zero_le _), rfl, List.Pairwise.nil, fun x => by simp, Nat.zero_le _, ((Below.refl _ _).alloc (Nat.le_refl _) _).alloc (by simp) _⟩
  obtain ⟨w2, hw2⟩ : ∃ w2, (w.alloc (.cells #[.bool false, .slice none 0 0] 29)).alloc (.cells #[.bool false, .slice none 0 0] 29) = w2 := ⟨_, rfl⟩
  rw [hw2] at D0
  have HD0 := Lib.hid D0
  have HW2 := Lib.hid hw2
  have hn63 : (l.length : Int) ≤ 9223372036854775807 := by omega
  clear h hf he hw2 D0 hR
  go_enter Tryz.func35, Tryz.ntmps35
  go_wp2_with fail
  rw [HW2.out, HR.out]
  go_loopw [4] (fun i wr => ∃ (k : Nat) (ta : Bool) (ns : List (List UInt8)) (a' : Option Addr) (c' : Nat), k ≤ l.length ∧ i = .int .i64 k ∧ Ro w R l k ta ns a' c' wr) (fun i _ => l.length - (RowKit.intOf i).toNat)
  case atStart => exact ⟨0, _, _, _, _, Nat.zero_le _, rfl, HD0.out⟩
  case round =>
    obtain ⟨k, ta, ns, a', c', hk, rfl, hr⟩ := hrel
    have c0 : wr.cell? ⟨R + 1, 0, none⟩ = some (.bool ta) := hr.box.cell 0
    have c1 : wr.cell? ⟨R + 1, 1, none⟩ = some (.slice a' ns.length c') := hr.box.cell 1
    have f0 := hr.box.frozen 0
    have f1 := hr.box.frozen 1
    have HRo := Lib.hid hr
    by_cases hlt : k < l.length
    · obtain ⟨y, hy⟩ : ∃ y, l[k]? = some y := ⟨_, List.getElem?_eq_getElem hlt⟩
      obtain ⟨a1, c1', e1, _, _, h3⟩ := H.out.out
      injection e1 with q1 _ q3
      subst q1; subst q3
      obtain ⟨b, off, rfl, hbl, hc⟩ := h3 k hlt
      clear h3
      rw [(List.getElem?_eq_some_iff.1 hy).2] at hc
      have d1 : CellAt wr b (off + k) (.string ⟨y.toArray⟩) := ⟨Nat.lt_of_lt_of_le hbl hr.bel.size, (hr.bel.cell (p := ⟨b, _, none⟩) hbl).trans hc⟩
      have d1' := d1.2
      have hyl : y.length ≤ maxLen := HF.out.1 y (List.mem_of_getElem? hy)
      have b0 : (0 : Int) ≤ (k : Int) := by omega
      have b1 : (k : Int) < (l.length : Int) := by omega
      have ty : (⟨y.toArray⟩ : ByteArray).toList = y := by rw [ByteArray.toList_eq]
      have HY := Lib.hid hy
      clear hy hc hbl hr
      by_cases hst : y = [42]
      · subst hst
        have hok : nmOk ⟨#[42]⟩ = false := by decide
        go_wp2_with fail
        refine (rname_is (s := ⟨#[42]⟩) (by decide) hok).mono ?_
        rintro e w' ⟨rfl, rfl⟩
        go_wp2_with fail
        go_roundw
        case rel => exact ⟨k + 1, true, ns, a', c', by omega, by go_num, HRo.out.star HY.out (by have := HR.out; omega)⟩
        case measure => simp [RowKit.intOf]; omega
      · have hst' : (y == [42]) = false := by simpa using hst
        cases hok : okN y with
        | false =>
          have HS := Lib.hid (And.intro hst hok)
          clear hst hok
          go_wp2_with fail
          refine (rname_is (s := ⟨y.toArray⟩) (by exact hyl) HS.out.2).mono ?_
          rintro e w' ⟨rfl, rfl⟩
          go_wp2_with fail
          go_roundw
          case rel => exact ⟨k + 1, ta, ns, a', c', by omega, by go_num, HRo.out.skip HY.out HS.out.1 HS.out.2⟩
          case measure => simp [RowKit.intOf]; omega
        | true =>
          have HS := Lib.hid (And.intro hst hok)
          clear hst hok
          go_wp2_with fail
          refine (rname_is (s := ⟨y.toArray⟩) (by exact hyl) HS.out.2).mono ?_
          rintro e wq ⟨rfl, rfl⟩
          go_wp2_with fail
          have L0 : Base wq wq := Below.refl _ _
          obtain ⟨w1, hw2, hb3⟩ := drew_new wq
          have q4 := d1.later hb3
          have q5 := HRo.out.box.later hb3
          have q6 := HRo.out.ts.later hb3
          have q7 := L0.later hb3
          refine wp_region_held_drew (S := (fun w' => w'.cell? ⟨b, off + k, none⟩ = some (.string ⟨y.toArray⟩))) (by kernel_rfl) (by rw [hw2]; exact q4.2) (fun hHeld => ?_)
          rw [hw2] at hHeld ⊢
          have r1d := q5.cell 1
          simp only [List.getElem?_toArray, List.getElem?_cons_zero, List.getElem?_cons_succ] at r1d
          refine wpAnyH_take (i := 0) (oi := { dst := some 25, op := Op.fieldAddr 29 (Operand.tmp 3) 1, type := 0, pos := "ref.go:50", after := #[], guard := none }) (v := ?v1) rfl (by kernel_rfl) (by kernel_rfl) (by kernel_rfl) (fun _ _ _ h => h) (Or.inl ⟨by rfl, ?hy1⟩) (by assumption) ?rest1
          case hy1 => (intro w1 hSw; (try dsimp only at hSw); obtain h0 := hSw; go_simp; try with_reducible rfl)
          try simp only [Act.put, List.setIfInBounds_toArray, List.set_cons_zero, List.set_cons_succ]
          refine wpAnyH_take (i := 2) (oi := { dst := some 27, op := Op.move (Operand.tmp 0), type := 27, pos := "ref.go:50", after := #[], guard := none }) (v := ?v2) rfl (by kernel_rfl) (by kernel_rfl) (by kernel_rfl) (fun _ _ _ h => h) (Or.inl ⟨by rfl, ?hy2⟩) (by assumption) ?rest2
          case hy2 => (intro w1 hSw; (try dsimp only at hSw); obtain h0 := hSw; go_simp; try with_reducible rfl)
          try simp only [Act.put, List.setIfInBounds_toArray, List.set_cons_zero, List.set_cons_succ]
          refine wpAnyH_take (i := 3) (oi := { dst := some 28, op := Op.move (Operand.tmp 4), type := 3, pos := "ref.go:50", after := #[], guard := none }) (v := ?v3) rfl (by kernel_rfl) (by kernel_rfl) (by kernel_rfl) (fun _ _ _ h => h) (Or.inl ⟨by rfl, ?hy3⟩) (by assumption) ?rest3
          case hy3 => (intro w1 hSw; (try dsimp only at hSw); obtain h0 := hSw; go_simp; try with_reducible rfl)
          try simp only [Act.put, List.setIfInBounds_toArray, List.set_cons_zero, List.set_cons_succ]
          refine wpAnyH_take (i := 4) (oi := { dst := some 29, op := Op.indexAddr 27 (Operand.tmp 27) (Operand.tmp 28), type := 0, pos := "ref.go:50", after := #[{ on := 2, ground := Ground.data }, { on := 3, ground := Ground.data }], guard := none }) (v := ?v4) rfl (by kernel_rfl) (by kernel_rfl) (by kernel_rfl) (fun _ _ _ h => h) (Or.inl ⟨by rfl, ?hy4⟩) (by assumption) ?rest4
          case hy4 => (intro w1 hSw; (try dsimp only at hSw); obtain h0 := hSw; go_simp; try with_reducible rfl)
          try simp only [Act.put, List.setIfInBounds_toArray, List.set_cons_zero, List.set_cons_succ]
          refine wpAnyH_take (i := 5) (oi := { dst := some 30, op := Op.load 9 (Operand.tmp 29), type := 9, pos := "ref.go:50", after := #[{ on := 4, ground := Ground.data }], guard := none }) (v := ?v5) rfl (by kernel_rfl) (by kernel_rfl) (by kernel_rfl) (fun _ _ _ h => h) (Or.inl ⟨by rfl, ?hy5⟩) (by assumption) ?rest5
          case hy5 => (intro w1 hSw; (try dsimp only at hSw); obtain h0 := hSw; go_simp; try with_reducible rfl)
          try simp only [Act.put, List.setIfInBounds_toArray, List.set_cons_zero, List.set_cons_succ]
          refine wpAnyH_ready (rs := [1]) (by kernel_rfl) (by simp) ?_
          refine AllReadyH.cons (o := { dst := some 26, op := Op.load 27 (Operand.tmp 25), type := 27, pos := "ref.go:50", after := #[{ on := 0, ground := Ground.data }], guard := none }) rfl (fun K hK => ?_) AllReadyH.nil
          go_simp
          refine hK.out _ _ (q4.2) (fun hHeld => ?_)
          clear hK K
          try simp only [Act.put, List.setIfInBounds_toArray, List.set_cons_zero, List.set_cons_succ]
          refine wpAnyH_ready (rs := [6]) (by kernel_rfl) (by simp) ?_
          refine AllReadyH.cons (o := { dst := some 31, op := Op.call { callee := Callee.value (Operand.func 54), args := #[Operand.tmp 26, Operand.tmp 30], argTypes := #[27, 9] }, type := 27, pos := "ref.go:50", after := #[{ on := 1, ground := Ground.data }, { on := 5, ground := Ground.data }], guard := none }) rfl (fun K hK => ?_) AllReadyH.nil
          go_simp
          refine (with_any (l := ns) q6 (by have := HRo.out.len; omega)).mono ?_
          rintro e w8 ⟨ax, cx, rfl, tx, hb9⟩
          have q10 := q4.later hb9
          have q11 := q5.later hb9
          have q12 := q6.later hb9
          have q13 := q7.later hb9
          have r1 := q11.cell 1
          have g1 := q11.frozen 1
          simp only [List.getElem?_toArray, List.getElem?_cons_zero, List.getElem?_cons_succ] at r1
          refine hK.out _ _ (q10.2) (fun hHeld => ?_)
          clear hK K
          try simp only [Act.put, List.setIfInBounds_toArray, List.set_cons_zero, List.set_cons_succ]
          refine wpAnyH_take (i := 7) (oi := { dst := some 32, op := Op.fieldAddr 29 (Operand.tmp 3) 1, type := 0, pos := "ref.go:50", after := #[{ on := 0, ground := Ground.phase }, { on := 1, ground := Ground.phase }, { on := 2, ground := Ground.phase }, { on := 3, ground := Ground.phase }, { on := 4, ground := Ground.phase }, { on := 5, ground := Ground.phase }, { on := 6, ground := Ground.phase }], guard := none }) (v := ?v6) rfl (by kernel_rfl) (by kernel_rfl) (by kernel_rfl) (fun _ _ _ h => h) (Or.inl ⟨by rfl, ?hy6⟩) (by assumption) ?rest6
          case hy6 => (intro w1 hSw; (try dsimp only at hSw); obtain h0 := hSw; go_simp; try with_reducible rfl)
          try simp only [Act.put, List.setIfInBounds_toArray, List.set_cons_zero, List.set_cons_succ]
          refine wpAnyH_ready (rs := [8]) (by kernel_rfl) (by simp) ?_
          refine AllReadyH.cons (o := { dst := none, op := Op.store 27 (Operand.tmp 32) (Operand.tmp 31), type := 0, pos := "ref.go:50", after := #[{ on := 7, ground := Ground.data }, { on := 6, ground := Ground.data }, { on := 6, ground := Ground.chain }, { on := 0, ground := Ground.phase }, { on := 1, ground := Ground.phase }, { on := 2, ground := Ground.phase }, { on := 3, ground := Ground.phase }, { on := 4, ground := Ground.phase }, { on := 5, ground := Ground.phase }, { on := 6, ground := Ground.phase }], guard := none }) rfl (fun K hK => ?_) AllReadyH.nil
          go_simp
          refine hK.out _ _ ((World.cell?_setCell_other _ _ _ _ (by intro e; have h1 := q10.2; rw [← e, r1] at h1; cases h1)).trans q10.2) (fun hHeld => ?_)
          clear hK K
          refine wpAnyH_done (by kernel_rfl) ?_ _
          go_wp2_with fail
          go_roundw
          case rel => exact ⟨k + 1, ta, _, _, _, by omega, by go_num, HRo.out.add HY.out HS.out.1 HS.out.2 (by have := HR.out; omega) tx q13⟩
          case measure => simp [RowKit.intOf]; omega
    · have b1 : ¬ (k : Int) < (l.length : Int) := by omega
      have hE : l.take k = l := List.take_of_length_le (by omega)
      have hfin : nOf okN l = ⟨ta, ns⟩ := of_ext (by rw [hr.all, hE]) hr.rises (fun x => by rw [hr.mem, hE])
      rw [HE.out] at hfin
      obtain ⟨rfl, rfl⟩ : sa = ta ∧ sl = ns := by injection hfin with q1 q2; exact ⟨q1, q2⟩
      have r0 : wr.cell? ⟨R, 0, none⟩ = some (.bool false) := hr.res.cell 0
      have r1 : wr.cell? ⟨R, 1, none⟩ = some (.slice none 0 0) := hr.res.cell 1
      have g0 := hr.res.frozen 0
      have g1 := hr.res.frozen 1
      obtain ⟨t0, t1⟩ := two_cells (.bool sa) (.slice a' sl.length c') r0 r1
      have ht := hr.ts.set2 (.bool sa) (.slice a' sl.length c') r0 r1
      have hb := below_set2 hr.bel (R := R) (by have := HR.out; omega) (.bool sa) (.slice a' sl.length c')
      have HX := Lib.hid (And.intro t0 (And.intro t1 (And.intro ht hb)))
      clear t0 t1 ht hb hr hfin hE
      go_wp2_with fail
      obtain ⟨t0, t1, ht, hb⟩ := HX.out
      refine bodyPost_ret (v := .agg #[.bool sa, .slice a' sl.length c']) ?_ rfl ⟨_, _, rfl, ht, hb⟩
      simp [results, Tryz.results35, go_sem, t0, t1]
end Go.Proofs.YtkjfafnnnkjoeaaGreatDoor
namespace Go.Proofs.YtkjfafnnnkjoeaaGreatDoor
open Go.RowKit Go.Lib

set_option maxRecDepth 100000 in
theorem rempty_any {sa : Bool} {sl : List (List UInt8)} {a : Option Addr} {c : Nat} {w : World} {B : Bool} (hB : nEmpty ⟨sa, sl⟩ = B) :
    Calls Tryz.prog 29 #[.agg #[.bool sa, .slice a sl.length c]] w fun e w' => e = .returned (.bool B) ∧ Below w.heap.size w w' := by
  have HB := Lib.hid hB
  clear hB
  have hb0 : Below w.heap.size w (w.alloc (.cells #[.bool sa, .slice a sl.length c] 29)) := (Below.refl _ _).alloc (Nat.le_refl _) _
  by_cases h0 : sl = []
  · subst h0
    have hl : ([] : List (List UInt8)).length = 0 := rfl
    rw [hl] at hb0 ⊢
    cases sa
    all_goals
      go_enter Tryz.func29, Tryz.ntmps29
      go_wp2_with fail
      go_ret
      exact ⟨by rw [← HB.out]; rfl, hb0⟩
  · have hl : sl.length ≠ 0 := fun e => h0 (List.eq_nil_of_length_eq_zero e)
    have he : sl.isEmpty = false := by cases sl with | nil => exact absurd rfl h0 | cons x xs => rfl
    obtain ⟨n, hn⟩ : ∃ n, sl.length = n := ⟨_, rfl⟩
    rw [hn] at hl hb0 ⊢
    have hz : ¬ n = 0 := by omega
    have HE := Lib.hid he
    clear he hn h0 hl
    cases sa
    all_goals
      go_enter Tryz.func29, Tryz.ntmps29
      go_wp2_with fail
      go_ret
      exact ⟨by first | (rw [← HB.out]; rfl) | (rw [← HB.out]; simp [nEmpty, HE.out, hz]), hb0⟩

set_option maxRecDepth 100000 in
set_option maxHeartbeats 1000000 in
theorem rlist_any {sa : Bool} {sl L : List (List UInt8)} {a : Option Addr} {c : Nat} {w : World} (h : TsAt w (.slice a sl.length c) sl) (hL : nList ⟨sa, sl⟩ = L) (hz : L.length * 16 ≤ 140737488355328) :
    Calls Tryz.prog 36 #[.agg #[.bool sa, .slice a sl.length c]] w fun e w' => ∃ a' c', e = .returned (.slice a' L.length c') ∧ w'.ownsRow w.heap.size 9 1 (.slice a' L.length c') L.length (tsV L) ∧ Below w.heap.size w w' := by
  subst hL
  obtain ⟨i0, hi, hz0, hz1, hz2⟩ := info_parts Tryz.infoStr
  obtain ⟨w0, hw0⟩ : ∃ w0, w.alloc (.cells #[.bool sa, .slice a sl.length c] 29) = w0 := ⟨_, rfl⟩
  have hb0 : Below w.heap.size w w0 := by rw [← hw0]; exact (Below.refl _ _).alloc (Nat.le_refl _) _
  have p0 : Blk w0 w.heap.size #[.bool sa, .slice a sl.length c] 29 := by rw [← hw0]; exact Blk.new _ _ _
  have H0 := Lib.hid (h.below hb0)
  have HB := Lib.hid hb0
  have HW := Lib.hid hw0
  have c0 : w0.cell? ⟨w.heap.size, 0, none⟩ = some (.bool sa) := p0.cell 0
  have c1 : w0.cell? ⟨w.heap.size, 1, none⟩ = some (.slice a sl.length c) := p0.cell 1
  have P0 := Lib.hid p0
  clear h hb0 hw0 p0
  cases sa with
  | false =>
    have hl : nList ⟨false, sl⟩ = sl := rfl
    rw [hl] at hz ⊢
    obtain ⟨n1, n2, n3⟩ := ts_news H0.out
    rw [← HW.out] at n3
    have hb1 := HB.out
    rw [← HW.out] at hb1
    have hm63 : sl.length ≤ maxLen := by unfold maxLen; omega
    go_enter Tryz.func36, Tryz.ntmps36
    go_wp2_with (at_builtin; go_must (refine wpList_append_row _ rfl _ _ 27 rfl w.heap.size 9 i0 _ 1 16 Tryz.underlying27 hi hz0 hz1 hz2 rfl (by omega) _ _ _ rfl (World.ownsRow_nil _ _ _ _) a sl.length c (tsV sl) rfl n1 n2 n3 (tsV_one _) (by omega) (by omega) (by simp) ?_; intro v1 w1 hown1 hgrow1))
    obtain ⟨a1, c1, rfl⟩ := owns_slice hown1
    go_wp2_with fail
    go_ret
    rw [Nat.zero_add] at *
    exact ⟨_, _, rfl, hown1, hb1.grown hgrow1 (by simp) (fun j hj => by cases hj)⟩
  | true =>
    have hl : nList ⟨true, sl⟩ = [42] :: sl := rfl
    rw [hl] at hz ⊢
    have hm63 : sl.length + 1 ≤ maxLen := by unfold maxLen; rw [List.length_cons] at hz; omega
    have hz' : (sl.length + 1) * 16 ≤ 140737488355328 := by rw [List.length_cons] at hz; omega
    have hb1 := HB.out
    rw [← HW.out] at hb1
    have H1 := H0.out
    have hnew : ((w.alloc (.cells #[.bool true, .slice a sl.length c] 29)).alloc (.cells #[.string ⟨#[42]⟩] 9)).heap[w.heap.size + 1]? = some (.cells #[.string ⟨#[42]⟩] 9 (0, 0)) := by
      have := heap_alloc_new (w.alloc (.cells #[.bool true, .slice a sl.length c] 29)) (.cells #[.string ⟨#[42]⟩] 9); simpa using this
    rw [← HW.out] at H1
    go_enter Tryz.func36, Tryz.ntmps36
    go_wp2_with (at_builtin; go_must (first
      | (refine wpList_append_own _ rfl _ _ 27 rfl w.heap.size 9 i0 _ 1 16 Tryz.underlying27 hi hz0 hz1 hz2 rfl (by omega) _ _ _ rfl (World.ownsRow_nil _ _ _ _) ⟨w.heap.size + 1, 0, none⟩ 1 1 (tsV [[42]]) rfl rfl (World.news_of_block (cs := #[.string ⟨#[42]⟩]) (t := 9) (fr := (0, 0)) hnew) (tsV_one _) (by unfold maxLen; omega) (by omega) (by simp; omega) ?_; intro v1 w1 hown1 hgrow1 _
         have hb2 : Below w.heap.size w w1 := ((hb1.alloc (by simp) _).grown hgrow1 (by simp; omega) (fun j hj => by cases hj))
         have hb3 : Below (w.heap.size + 1) (w.alloc (.cells #[.bool true, .slice a sl.length c] 29)) w1 := (((Below.refl _ _).alloc (by simp) _).grown hgrow1 (by simp) (fun j hj => by cases hj))
         have H2 := H1.below (hb3.mono (by simp))
         have d0 : w1.cell? ⟨w.heap.size, 0, none⟩ = some (.bool true) := (hb3.cell (p := ⟨w.heap.size, 0, none⟩) (by simp)).trans (by have := (Blk.new w #[.bool true, .slice a sl.length c] 29).cell 0; exact this)
         have d1 : w1.cell? ⟨w.heap.size, 1, none⟩ = some (.slice a sl.length c) := (hb3.cell (p := ⟨w.heap.size, 1, none⟩) (by simp)).trans (by have := (Blk.new w #[.bool true, .slice a sl.length c] 29).cell 1; exact this)
         obtain ⟨n1, n2, n3⟩ := ts_news H2)
      | (refine wpList_append_row _ rfl _ _ 27 rfl w.heap.size 9 i0 _ 1 16 Tryz.underlying27 hi hz0 hz1 hz2 rfl (by omega) _ _ _ rfl hown1 a sl.length c (tsV sl) rfl n1 n2 n3 (tsV_one _) (by omega) (by omega) (by have := hb2.size; omega) ?_; intro v2 w2 hown2 hgrow2)))
    obtain ⟨a2, c2, rfl⟩ := owns_slice hown2
    go_wp2_with fail
    go_ret
    rw [Nat.zero_add, List.nil_append, ← tsV_append, Nat.add_comm] at hown2
    refine ⟨_, _, ?_, hown2, hb2.grown hgrow2 hb2.size (fun j hj => (hown1.lt j hj).1)⟩
    rw [Nat.zero_add, Nat.add_comm]; rfl

set_option maxRecDepth 100000 in
theorem rhas_any {sa : Bool} {sl : List (List UInt8)} {a : Option Addr} {c : Nat} {x : List UInt8} {w : World} {B : Bool} (h : TsAt w (.slice a sl.length c) sl) (hx : x.length ≤ maxLen) (hB : nHas okN ⟨sa, sl⟩ x = B) :
    Calls Tryz.prog 41 #[.agg #[.bool sa, .slice a sl.length c], .string ⟨x.toArray⟩] w fun e w' => e = .returned (.bool B) ∧ Below w.heap.size w w' := by
  obtain ⟨w0, hw0⟩ : ∃ w0, w.alloc (.cells #[.bool sa, .slice a sl.length c] 29) = w0 := ⟨_, rfl⟩
  have hb0 : Below w.heap.size w w0 := by rw [← hw0]; exact (Below.refl _ _).alloc (Nat.le_refl _) _
  have p0 : Blk w0 w.heap.size #[.bool sa, .slice a sl.length c] 29 := by rw [← hw0]; exact Blk.new _ _ _
  have H0 := Lib.hid (h.below hb0)
  have HB := Lib.hid hb0
  have HW := Lib.hid hw0
  have c0 : w0.cell? ⟨w.heap.size, 0, none⟩ = some (.bool sa) := p0.cell 0
  have c1 : w0.cell? ⟨w.heap.size, 1, none⟩ = some (.slice a sl.length c) := p0.cell 1
  clear h hb0 hw0 p0
  cases hn : nmOk ⟨x.toArray⟩ with
  | false =>
    obtain rfl : false = B := by rw [← hB]; simp [nHas, okN, hn]
    have HN := Lib.hid hn
    clear hn hB
    go_enter Tryz.func41, Tryz.ntmps41
    go_wp2_with fail
    rw [HW.out]
    refine (rname_is (s := ⟨x.toArray⟩) hx HN.out).mono ?_
    rintro e w' ⟨rfl, rfl⟩
    go_wp2_with fail
    go_ret
    exact ⟨rfl, HB.out⟩
  | true =>
    cases sa with
    | true =>
      obtain rfl : true = B := by rw [← hB]; simp [nHas, okN, hn]
      have HN := Lib.hid hn
      clear hn hB
      go_enter Tryz.func41, Tryz.ntmps41
      go_wp2_with fail
      rw [HW.out]
      refine (rname_is (s := ⟨x.toArray⟩) hx HN.out).mono ?_
      rintro e w' ⟨rfl, rfl⟩
      go_wp2_with fail
      go_ret
      exact ⟨rfl, HB.out⟩
    | false =>
      have hB' : sl.contains x = B := by rw [← hB]; simp [nHas, okN, hn]
      have HN := Lib.hid (And.intro hn hB')
      clear hn hB hB'
      go_enter Tryz.func41, Tryz.ntmps41
      go_wp2_with fail
      rw [HW.out]
      refine (rname_is (s := ⟨x.toArray⟩) hx HN.out.1).mono ?_
      rintro e w' ⟨rfl, rfl⟩
      go_wp2_with fail
      refine (listed_any H0.out HN.out.2).mono ?_
      rintro e w' ⟨rfl, hb⟩
      go_wp2_with fail
      go_ret
      exact ⟨rfl, HB.out.trans (hb.mono HB.out.size)⟩

theorem take_eq_next {l1 l2 : List (List UInt8)} {j : Nat} {y : List UInt8} (h : l1.take j = l2.take j) (h1 : l1[j]? = some y) (h2 : l2[j]? = some y) : l1.take (j + 1) = l2.take (j + 1) := by
  rw [List.take_add_one, List.take_add_one, h, h1, h2]
end Go.Proofs.YtkjfafnnnkjoeaaGreatDoor
namespace Go.Proofs.YtkjfafnnnkjoeaaGreatDoor
open Go.RowKit Go.Lib

def tab9 : List (List UInt8) := [[97], [98], [99], [100], [101], [102, 47, 103], [104, 45, 49], [110, 111, 110, 101], [88]]
def tab9V : Array Value := #[.string ⟨#[97]⟩, .string ⟨#[98]⟩, .string ⟨#[99]⟩, .string ⟨#[100]⟩, .string ⟨#[101]⟩, .string ⟨#[102, 47, 103]⟩, .string ⟨#[104, 45, 49]⟩, .string ⟨#[110, 111, 110, 101]⟩, .string ⟨#[88]⟩]
theorem tab9_cell (κ : Nat) (h : κ < 9) : tab9V[κ]? = some (encStr (tab9.getD κ [])) := by
  match κ with
  | 0 | 1 | 2 | 3 | 4 | 5 | 6 | 7 | 8 => rfl
  | κ + 9 => omega
theorem ns_parts (s : Ns) : s = ⟨s.all, s.ns⟩ := rfl
/-- A few names' set. -/
structure Small (l : List (List UInt8)) : Prop where
  fit : NmFit l
  rises : Rises l
  len : l.length ≤ 60
theorem small_of (ms : List Nat) {sa : Bool} {sl : List (List UInt8)} (h : nOf okN (fewL ms) = ⟨sa, sl⟩) : Small sl := by
  obtain ⟨h1, h2⟩ := of_fit (few_fit ms) h
  have h3 := few_len ms
  have h4 := nOf_ok okN (fewL ms)
  rw [h] at h4
  exact ⟨h1, h4, by omega⟩
theorem small_union {aa ba sa : Bool} {al bl sl : List (List UInt8)} (ha : NmFit al) (hb : NmFit bl) (hn : al.length + bl.length ≤ 60) (h : nUnion [⟨aa, al⟩, ⟨ba, bl⟩] = ⟨sa, sl⟩) : Small sl := by
  have e : sl = srt (al ++ bl) := by have := (congrArg Ns.ns h).symm; simpa [nUnion] using this
  have h1 : sl.length ≤ 60 := by rw [e]; refine Nat.le_trans (srt_len _) ?_; rw [List.length_append]; exact hn
  refine ⟨⟨fun s hs => ?_, by omega⟩, by rw [e]; exact srt_rises _, h1⟩
  rw [e, srt_mem, List.mem_append] at hs
  rcases hs with hs | hs
  · exact ha.1 s hs
  · exact hb.1 s hs
theorem fit_two {aa ba : Bool} {al bl : List (List UInt8)} (ha : NmFit al) (hb : NmFit bl) (hn : al.length + bl.length ≤ 200) : NssFit [⟨aa, al⟩, ⟨ba, bl⟩] := ⟨fun s hs x hx => by
    rcases List.mem_cons.1 hs with rfl | hs
    · exact ha.1 x hx
    · obtain rfl := List.mem_singleton.1 hs; exact hb.1 x hx, by simp only [List.flatMap_cons, List.flatMap_nil, List.append_nil, List.length_append]; omega, by show (2 : Nat) ≤ 1000000; omega⟩
theorem has_union {a b u : Ns} (h : nUnion [a, b] = u) (x : List UInt8) : nHas okN u x = (nHas okN a x || nHas okN b x) := by
  subst h
  have h1 : (nUnion [a, b]).all = (a.all || b.all) := by simp [nUnion]
  have h2 : (nUnion [a, b]).ns.contains x = (a.ns.contains x || b.ns.contains x) := by
    rw [Bool.eq_iff_iff, Bool.or_eq_true, List.contains_iff_mem, List.contains_iff_mem, List.contains_iff_mem, mem_union2]
  unfold nHas
  rw [h1, h2]
  cases okN x <;> cases a.all <;> cases b.all <;> cases a.ns.contains x <;> cases b.ns.contains x <;> rfl
theorem all_union {a b u : Ns} (h : nUnion [a, b] = u) : u.all = (a.all || b.all) := by subst h; simp [nUnion]
theorem union_comm {a b u v : Ns} (h : nUnion [a, b] = u) (h' : nUnion [b, a] = v) : nSame u v = true := by
  subst h; subst h'
  exact nSame_self (by simp [nUnion, Bool.or_comm]) (fun x => by rw [mem_union2, mem_union2, or_comm])
theorem union_self {a u : Ns} (h : nUnion [a, a] = u) : nSame u a = true := by
  subst h
  exact nSame_self (by simp [nUnion]) (fun x => by rw [mem_union2, or_self])
theorem union_nil : nUnion [] = ⟨false, []⟩ := by simp [nUnion, srt, compact, compactUpTo]
theorem fit_nil : NssFit [] := ⟨fun s hs => (List.not_mem_nil hs).elim, by decide, by decide⟩
theorem nm_nil : NmFit [] := ⟨fun s hs => (List.not_mem_nil hs).elim, by decide⟩
theorem sets_nil (w : World) : SetsAt w none [] := fun i s h => by simp at h
end Go.Proofs.YtkjfafnnnkjoeaaGreatDoor
namespace Go.Proofs.YtkjfafnnnkjoeaaGreatDoor
open Go.RowKit Go.Lib

theorem less_ext {aa ba : Bool} {al bl : List (List UInt8)} (h : Rises al) : nLess ⟨aa, al⟩ ⟨ba, bl⟩ = ⟨aa && !ba, al.filter fun x => !bl.contains x⟩ := by
  refine ns_eq rfl ?_
  exact srt_self (List.Pairwise.sublist List.filter_sublist h)
/-- What the loop holds. -/
structure Rl (w : World) (R : Nat) (aa ba sa : Bool) (av bv : Value) (ns : List (List UInt8)) (a : Option Addr) (c : Nat) (wr : World) : Prop where
  pa : Blk wr R #[.bool aa, av] 29
  pb : Blk wr (R + 1) #[.bool ba, bv] 29
  res : Blk wr (R + 2) #[.bool false, .slice none 0 0] 29
  box : Blk wr (R + 3) #[.bool sa, .slice a ns.length c] 29
  own : wr.ownsRow (R + 4) 9 1 (.slice a ns.length c) ns.length (tsV ns)
  bel : Below w.heap.size w wr
theorem Rl.later {w : World} {R : Nat} {aa ba sa : Bool} {av bv : Value} {ns : List (List UInt8)} {a : Option Addr} {c : Nat} {wr w' : World} (h : Rl w R aa ba sa av bv ns a c wr) (hb : Below wr.heap.size wr w') : Rl w R aa ba sa av bv ns a c w' :=
  ⟨h.pa.later hb, h.pb.later hb, h.res.later hb, h.box.later hb, ownsRow_later h.own hb, h.bel.trans (hb.mono h.bel.size)⟩
/-- Behind the append, ahead of the store. -/
structure Rg (w : World) (R : Nat) (aa ba sa : Bool) (av bv u : Value) (ns : List (List UInt8)) (v : Value) (wr : World) : Prop where
  pa : Blk wr R #[.bool aa, av] 29
  pb : Blk wr (R + 1) #[.bool ba, bv] 29
  res : Blk wr (R + 2) #[.bool false, .slice none 0 0] 29
  box : Blk wr (R + 3) #[.bool sa, u] 29
  own : wr.ownsRow (R + 4) 9 1 v ns.length (tsV ns)
  bel : Below w.heap.size w wr
theorem Rl.grown {w : World} {R : Nat} {aa ba sa : Bool} {av bv v : Value} {ns ns' : List (List UInt8)} {a : Option Addr} {c : Nat} {wr w' : World} (h : Rl w R aa ba sa av bv ns a c wr) (hR : w.heap.size = R) (hg : wr.grownBy w' (Value.slice a ns.length c).ownBlock) (ho : w'.ownsRow (R + 4) 9 1 v ns'.length (tsV ns')) : Rg w R aa ba sa av bv (.slice a ns.length c) ns' v w' := by
  have hlt : ∀ j, (Value.slice a ns.length c).ownBlock = some j → R + 4 ≤ j := fun j hj => (h.own.lt j hj).1
  have hne : ∀ j, j < R + 4 → some j ≠ (Value.slice a ns.length c).ownBlock := fun j hj e => by have := hlt j e.symm; omega
  exact ⟨h.pa.kept hg (hne _ (by omega)), h.pb.kept hg (hne _ (by omega)), h.res.kept hg (hne _ (by omega)), h.box.kept hg (hne _ (by omega)), ho, h.bel.grown hg h.bel.size (fun j hj => by have := hlt j hj; omega)⟩
theorem Rg.later {w : World} {R : Nat} {aa ba sa : Bool} {av bv u v : Value} {ns : List (List UInt8)} {wr w' : World} (h : Rg w R aa ba sa av bv u ns v wr) (hb : Below wr.heap.size wr w') : Rg w R aa ba sa av bv u ns v w' :=
  ⟨h.pa.later hb, h.pb.later hb, h.res.later hb, h.box.later hb, ownsRow_later h.own hb, h.bel.trans (hb.mono h.bel.size)⟩
theorem Rg.store {w : World} {R : Nat} {aa ba sa : Bool} {av bv u : Value} {ns : List (List UInt8)} {n : Nat} {a : Option Addr} {c : Nat} {wr : World} (h : Rg w R aa ba sa av bv u ns (.slice a n c) wr) (hn : ns.length = n) (hR : w.heap.size = R) : Rl w R aa ba sa av bv ns a c (wr.setCell ⟨R + 3, 1, none⟩ (.slice a n c)) where
  pa := h.pa.kept (grown_set wr (R + 3) 1 _) (by simp)
  pb := h.pb.kept (grown_set wr (R + 3) 1 _) (by simp)
  res := h.res.kept (grown_set wr (R + 3) 1 _) (by simp)
  box := by rw [hn]; exact h.box.set 1 _
  own := by rw [hn]; have := ownsRow_setCell_below h.own (a := ⟨R + 3, 1, none⟩) (by show R + 3 < R + 4; omega) (.slice a n c); rw [hn] at this; exact this
  bel := h.bel.setCell (p := ⟨R + 3, 1, none⟩) (by show w.heap.size ≤ R + 3; omega) _
theorem cell_far {w : World} {b o R j : Nat} {v u : Value} (h : w.cell? ⟨b, o, none⟩ = some v) (hn : b ≠ R) : (w.setCell ⟨R, j, none⟩ u).cell? ⟨b, o, none⟩ = some v :=
  (World.cell?_setCell_other _ _ _ _ (by intro e; injection e with e1; exact hn e1.symm)).trans h
theorem filt_snoc (p : List UInt8 → Bool) {l : List (List UInt8)} {k : Nat} {y : List UInt8} (h : l[k]? = some y) : (l.take (k + 1)).filter p = (l.take k).filter p ++ if p y then [y] else [] := by
  rw [List.take_add_one, h, List.filter_append]
  cases hp : p y <;> simp [hp]

set_option maxRecDepth 100000 in
set_option maxHeartbeats 4000000 in
theorem rless_any {aa ba : Bool} {al bl : List (List UInt8)} {a1 a2 : Option Addr} {c1 c2 : Nat} {w : World} {sa : Bool} {sl : List (List UInt8)} (h1 : TsAt w (.slice a1 al.length c1) al) (h2 : TsAt w (.slice a2 bl.length c2) bl) (hf1 : NmFit al) (hr : Rises al) (he : nLess ⟨aa, al⟩ ⟨ba, bl⟩ = ⟨sa, sl⟩) :
    Calls Tryz.prog 37 #[.agg #[.bool aa, .slice a1 al.length c1], .agg #[.bool ba, .slice a2 bl.length c2]] w (SetPost sa sl w) := by
  rw [less_ext hr] at he
  have he1 : (aa && !ba) = sa := congrArg Ns.all he
  have HSL := Lib.hid (show (al.filter fun x => !bl.contains x) = sl from congrArg Ns.ns he)
  have H1 := Lib.hid h1
  have H2 := Lib.hid h2
  have HF := Lib.hid hf1
  have hz := hf1.2
  obtain ⟨i0, hi, hz0, hz1, hz2⟩ := info_parts Tryz.infoStr
  obtain ⟨R, hR⟩ : ∃ R, w.heap.size = R := ⟨_, rfl⟩
  have HR := Lib.hid hR
  obtain ⟨w1, hw1, hb1, p1⟩ := alloc_new w #[.bool aa, .slice a1 al.length c1] 29
  obtain ⟨w2, hw2, hb2, p2⟩ := alloc_new w1 #[.bool ba, .slice a2 bl.length c2] 29
  obtain ⟨w3, hw3, hb3, p3⟩ := alloc_new w2 #[.bool false, .slice none 0 0] 29
  obtain ⟨w4, hw4, hb4, p4⟩ := alloc_new w3 #[.bool sa, .slice none 0 0] 29
  have e1 : w1.heap.size = R + 1 := by rw [← hw1, World.size_alloc, hR]
  have e2 : w2.heap.size = R + 2 := by rw [← hw2, World.size_alloc, e1]
  have e3 : w3.heap.size = R + 3 := by rw [← hw3, World.size_alloc, e2]
  have D0 : Rl w R aa ba sa (.slice a1 al.length c1) (.slice a2 bl.length c2) [] none 0 w4 := by
    have q1 := ((p1.later hb2).later hb3).later hb4
    have q2 := (p2.later hb3).later hb4
    have q3 := p3.later hb4
    rw [hR] at q1; rw [e1] at q2; rw [e2] at q3; rw [e3] at p4
    exact ⟨q1, q2, q3, p4, ⟨rfl, .inl ⟨rfl, rfl⟩⟩, Base.later (Base.later (Base.later hb1 hb2) hb3) hb4⟩
  have HD0 := Lib.hid D0
  have hal63 : (al.length : Int) ≤ 9223372036854775807 := by omega
  have h12 : R + 1 + 1 = R + 2 := rfl
  have HW := Lib.hid (And.intro hw1 (And.intro hw2 (And.intro hw3 hw4)))
  clear h1 h2 hf1 he D0 hb1 hb2 hb3 hb4 p1 p2 p3 p4 hw1 hw2 hw3 hw4
  go_enter Tryz.func37, Tryz.ntmps37
  cases aa
  all_goals
    simp only [Bool.false_and, Bool.true_and] at he1
    subst he1
    go_wp2_with fail
    rw [HW.out.1, HW.out.2.1, HW.out.2.2.1, HW.out.2.2.2]
    simp only [show R + 2 + 1 = R + 3 from rfl]
  · go_loopw [6] (fun i wr => ∃ (k : Nat) (ns : List (List UInt8)) (a' : Option Addr) (c' : Nat), k ≤ al.length ∧ i = .int .i64 k ∧ (al.take k).filter (fun x => !bl.contains x) = ns ∧ Rl w R false ba false (.slice a1 al.length c1) (.slice a2 bl.length c2) ns a' c' wr) (fun i _ => al.length - (RowKit.intOf i).toNat)
    case atStart => exact ⟨0, _, _, _, Nat.zero_le _, rfl, rfl, HD0.out⟩
    case round =>
      obtain ⟨k, ns, a', c', hk, rfl, hns, hr⟩ := hrel
      have HNS := Lib.hid hns
      have HRo := Lib.hid hr
      have d0 : wr.cell? ⟨R, 1, none⟩ = some (.slice a1 al.length c1) := hr.pa.cell 1
      by_cases hlt : k < al.length
      · obtain ⟨y, hy⟩ : ∃ y, al[k]? = some y := ⟨_, List.getElem?_eq_getElem hlt⟩
        obtain ⟨a1', c1', e1, _, _, h3⟩ := H1.out.out
        injection e1 with q1 _ q3
        subst q1; subst q3
        obtain ⟨b, off, rfl, hbl, hc⟩ := h3 k hlt
        clear h3
        rw [(List.getElem?_eq_some_iff.1 hy).2] at hc
        have d1 : CellAt wr b (off + k) (.string ⟨y.toArray⟩) := ⟨Nat.lt_of_lt_of_le hbl hr.bel.size, (hr.bel.cell (p := ⟨b, _, none⟩) hbl).trans hc⟩
        have T2 := H2.out.below hr.bel
        have b0 : (0 : Int) ≤ (k : Int) := by omega
        have b1 : (k : Int) < (al.length : Int) := by omega
        have hbR : b < R := by have := HR.out; omega
        have hns1 := filt_snoc (fun x => !bl.contains x) hy
        rw [hns] at hns1
        have hnl : ns.length ≤ k := by rw [← hns]; exact Nat.le_trans (List.length_filter_le _ _) (by rw [List.length_take]; omega)
        have HY := Lib.hid hns1
        have DD := Lib.hid (And.intro d1 T2)
        clear hy hc hbl hr hns hns1 d1 T2
        obtain ⟨BB, hBB⟩ : ∃ BB, bl.contains y = BB := ⟨_, rfl⟩
        have HB := Lib.hid hBB
        clear hBB
        go_wp2_with fail
        obtain ⟨w1, hw2, hb3⟩ := drew_new wr
        have q4 := HRo.out.later hb3
        have q5 := DD.out.1.later hb3
        have q6 := DD.out.2.later hb3
        refine wp_region_held_drew (S := (fun w' => w'.cell? ⟨R + 1, 1, none⟩ = some (.slice a2 bl.length c2) ∧ w'.cell? ⟨R, 1, none⟩ = some (.slice (some ⟨b, off, none⟩) al.length c1) ∧ w'.cell? ⟨b, off + k, none⟩ = some (.string ⟨y.toArray⟩))) (by kernel_rfl) (by rw [hw2]; exact ⟨q4.pb.cell 1, q4.pa.cell 1, q5.2⟩) (fun hHeld => ?_)
        rw [hw2] at hHeld ⊢
        refine wpAnyH_take (i := 0) (oi := { dst := some 23, op := Op.fieldAddr 29 (Operand.tmp 3) 1, type := 0, pos := "ref.go:90", after := #[], guard := none }) (v := ?v1001) rfl (by kernel_rfl) (by kernel_rfl) (by kernel_rfl) (fun _ _ _ h => h) (Or.inl ⟨by rfl, ?hy1001⟩) (by assumption) ?rest1001
        case hy1001 => (intro w1 hSw; (try dsimp only at hSw); obtain ⟨h0, h1, h2⟩ := hSw; go_simp; try with_reducible rfl)
        try simp only [Act.put, List.setIfInBounds_toArray, List.set_cons_zero, List.set_cons_succ]
        refine wpAnyH_take (i := 1) (oi := { dst := some 24, op := Op.load 27 (Operand.tmp 23), type := 27, pos := "ref.go:90", after := #[{ on := 0, ground := Ground.data }], guard := none }) (v := ?v1002) rfl (by kernel_rfl) (by kernel_rfl) (by kernel_rfl) (fun _ _ _ h => h) (Or.inl ⟨by rfl, ?hy1002⟩) (by assumption) ?rest1002
        case hy1002 => (intro w1 hSw; (try dsimp only at hSw); obtain ⟨h0, h1, h2⟩ := hSw; go_simp; try with_reducible rfl)
        try simp only [Act.put, List.setIfInBounds_toArray, List.set_cons_zero, List.set_cons_succ]
        refine wpAnyH_take (i := 2) (oi := { dst := some 25, op := Op.fieldAddr 29 (Operand.tmp 2) 1, type := 0, pos := "ref.go:90", after := #[], guard := none }) (v := ?v1003) rfl (by kernel_rfl) (by kernel_rfl) (by kernel_rfl) (fun _ _ _ h => h) (Or.inl ⟨by rfl, ?hy1003⟩) (by assumption) ?rest1003
        case hy1003 => (intro w1 hSw; (try dsimp only at hSw); obtain ⟨h0, h1, h2⟩ := hSw; go_simp; try with_reducible rfl)
        try simp only [Act.put, List.setIfInBounds_toArray, List.set_cons_zero, List.set_cons_succ]
        refine wpAnyH_take (i := 3) (oi := { dst := some 26, op := Op.load 27 (Operand.tmp 25), type := 27, pos := "ref.go:90", after := #[{ on := 2, ground := Ground.data }], guard := none }) (v := ?v1004) rfl (by kernel_rfl) (by kernel_rfl) (by kernel_rfl) (fun _ _ _ h => h) (Or.inl ⟨by rfl, ?hy1004⟩) (by assumption) ?rest1004
        case hy1004 => (intro w1 hSw; (try dsimp only at hSw); obtain ⟨h0, h1, h2⟩ := hSw; go_simp; try with_reducible rfl)
        try simp only [Act.put, List.setIfInBounds_toArray, List.set_cons_zero, List.set_cons_succ]
        refine wpAnyH_take (i := 4) (oi := { dst := some 27, op := Op.move (Operand.tmp 6), type := 3, pos := "ref.go:90", after := #[], guard := none }) (v := ?v1005) rfl (by kernel_rfl) (by kernel_rfl) (by kernel_rfl) (fun _ _ _ h => h) (Or.inl ⟨by rfl, ?hy1005⟩) (by assumption) ?rest1005
        case hy1005 => (intro w1 hSw; (try dsimp only at hSw); obtain ⟨h0, h1, h2⟩ := hSw; go_simp; try with_reducible rfl)
        try simp only [Act.put, List.setIfInBounds_toArray, List.set_cons_zero, List.set_cons_succ]
        refine wpAnyH_take (i := 5) (oi := { dst := some 28, op := Op.indexAddr 27 (Operand.tmp 26) (Operand.tmp 27), type := 0, pos := "ref.go:90", after := #[{ on := 3, ground := Ground.data }, { on := 4, ground := Ground.data }], guard := none }) (v := ?v1006) rfl (by kernel_rfl) (by kernel_rfl) (by kernel_rfl) (fun _ _ _ h => h) (Or.inl ⟨by rfl, ?hy1006⟩) (by assumption) ?rest1006
        case hy1006 => (intro w1 hSw; (try dsimp only at hSw); obtain ⟨h0, h1, h2⟩ := hSw; go_simp; try with_reducible rfl)
        try simp only [Act.put, List.setIfInBounds_toArray, List.set_cons_zero, List.set_cons_succ]
        refine wpAnyH_take (i := 6) (oi := { dst := some 29, op := Op.load 9 (Operand.tmp 28), type := 9, pos := "ref.go:90", after := #[{ on := 5, ground := Ground.data }], guard := none }) (v := ?v1007) rfl (by kernel_rfl) (by kernel_rfl) (by kernel_rfl) (fun _ _ _ h => h) (Or.inl ⟨by rfl, ?hy1007⟩) (by assumption) ?rest1007
        case hy1007 => (intro w1 hSw; (try dsimp only at hSw); obtain ⟨h0, h1, h2⟩ := hSw; go_simp; try with_reducible rfl)
        try simp only [Act.put, List.setIfInBounds_toArray, List.set_cons_zero, List.set_cons_succ]
        refine wpAnyH_ready (rs := [7]) (by kernel_rfl) (by simp) ?_
        refine AllReadyH.cons (o := { dst := some 30, op := Op.call { callee := Callee.value (Operand.func 55), args := #[Operand.tmp 24, Operand.tmp 29], argTypes := #[27, 9] }, type := 4, pos := "ref.go:90", after := #[{ on := 1, ground := Ground.data }, { on := 6, ground := Ground.data }], guard := none }) rfl (fun K hK => ?_) AllReadyH.nil
        go_simp
        refine (listed_any (x := y) q6 HB.out).mono ?_
        rintro e w7 ⟨rfl, hb8⟩
        have q9 := q4.later hb8
        have q10 := q5.later hb8
        have q11 := q6.later hb8
        refine hK.out _ _ (⟨q9.pb.cell 1, q9.pa.cell 1, q10.2⟩) (fun hHeld => ?_)
        clear hK K
        try simp only [Act.put, List.setIfInBounds_toArray, List.set_cons_zero, List.set_cons_succ]
        refine wpAnyH_take (i := 8) (oi := { dst := some 7, op := Op.assign (Operand.tmp 30), type := 4, pos := "ref.go:90", after := #[{ on := 7, ground := Ground.data }, { on := 7, ground := Ground.chain }, { on := 0, ground := Ground.phase }, { on := 1, ground := Ground.phase }, { on := 2, ground := Ground.phase }, { on := 3, ground := Ground.phase }, { on := 4, ground := Ground.phase }, { on := 5, ground := Ground.phase }, { on := 6, ground := Ground.phase }, { on := 7, ground := Ground.phase }], guard := none }) (v := ?v1008) rfl (by kernel_rfl) (by kernel_rfl) (by kernel_rfl) (fun _ _ _ h => h) (Or.inl ⟨by rfl, ?hy1008⟩) (by assumption) ?rest1008
        case hy1008 => (intro w1 hSw; (try dsimp only at hSw); obtain ⟨h0, h1, h2⟩ := hSw; go_simp; try with_reducible rfl)
        try simp only [Act.put, List.setIfInBounds_toArray, List.set_cons_zero, List.set_cons_succ]
        refine wpAnyH_done (by kernel_rfl) ?_ _
        clear d0
        have HD1 := Lib.hid q9
        have HN1 := Lib.hid q10
        cases BB with
        | true =>
          have HB1 := HB.out
          go_wp2_with fail
          go_roundw
          case rel => exact ⟨k + 1, ns, _, _, by omega, by go_num, by rw [HY.out, HB1]; simp, HD1.out⟩
          case measure => simp [RowKit.intOf]; omega
        | false =>
          have HB1 := HB.out
          have d0 := q9.pa.cell 1
          simp only [List.getElem?_toArray, List.getElem?_cons_zero, List.getElem?_cons_succ] at d0
          go_wp2_with fail
          obtain ⟨w12, hw13, hb14⟩ := drew_new w7
          have q15 := HD1.out.later hb14
          have q16 := HN1.out.later hb14
          refine wp_region_held_drew (S := (fun w' => w'.cell? ⟨R, 1, none⟩ = some (.slice (some ⟨b, off, none⟩) al.length c1) ∧ w'.cell? ⟨b, off + k, none⟩ = some (.string ⟨y.toArray⟩))) (by kernel_rfl) (by rw [hw13]; exact ⟨q15.pa.cell 1, q16.2⟩) (fun hHeld => ?_)
          rw [hw13] at hHeld ⊢
          have r1d := q15.box.cell 1
          have g1d := q15.box.frozen 1
          simp only [List.getElem?_toArray, List.getElem?_cons_zero, List.getElem?_cons_succ] at r1d
          refine wpAnyH_take (i := 0) (oi := { dst := some 33, op := Op.fieldAddr 29 (Operand.tmp 5) 1, type := 0, pos := "ref.go:92", after := #[], guard := none }) (v := ?v1101) rfl (by kernel_rfl) (by kernel_rfl) (by kernel_rfl) (fun _ _ _ h => h) (Or.inl ⟨by rfl, ?hy1101⟩) (by assumption) ?rest1101
          case hy1101 => (intro w1 hSw; (try dsimp only at hSw); obtain ⟨h0, h1⟩ := hSw; go_simp; try with_reducible rfl)
          try simp only [Act.put, List.setIfInBounds_toArray, List.set_cons_zero, List.set_cons_succ]
          refine wpAnyH_take (i := 2) (oi := { dst := some 35, op := Op.fieldAddr 29 (Operand.tmp 2) 1, type := 0, pos := "ref.go:92", after := #[], guard := none }) (v := ?v1102) rfl (by kernel_rfl) (by kernel_rfl) (by kernel_rfl) (fun _ _ _ h => h) (Or.inl ⟨by rfl, ?hy1102⟩) (by assumption) ?rest1102
          case hy1102 => (intro w1 hSw; (try dsimp only at hSw); obtain ⟨h0, h1⟩ := hSw; go_simp; try with_reducible rfl)
          try simp only [Act.put, List.setIfInBounds_toArray, List.set_cons_zero, List.set_cons_succ]
          refine wpAnyH_take (i := 3) (oi := { dst := some 36, op := Op.load 27 (Operand.tmp 35), type := 27, pos := "ref.go:92", after := #[{ on := 2, ground := Ground.data }], guard := none }) (v := ?v1103) rfl (by kernel_rfl) (by kernel_rfl) (by kernel_rfl) (fun _ _ _ h => h) (Or.inl ⟨by rfl, ?hy1103⟩) (by assumption) ?rest1103
          case hy1103 => (intro w1 hSw; (try dsimp only at hSw); obtain ⟨h0, h1⟩ := hSw; go_simp; try with_reducible rfl)
          try simp only [Act.put, List.setIfInBounds_toArray, List.set_cons_zero, List.set_cons_succ]
          refine wpAnyH_take (i := 4) (oi := { dst := some 37, op := Op.move (Operand.tmp 6), type := 3, pos := "ref.go:92", after := #[], guard := none }) (v := ?v1104) rfl (by kernel_rfl) (by kernel_rfl) (by kernel_rfl) (fun _ _ _ h => h) (Or.inl ⟨by rfl, ?hy1104⟩) (by assumption) ?rest1104
          case hy1104 => (intro w1 hSw; (try dsimp only at hSw); obtain ⟨h0, h1⟩ := hSw; go_simp; try with_reducible rfl)
          try simp only [Act.put, List.setIfInBounds_toArray, List.set_cons_zero, List.set_cons_succ]
          refine wpAnyH_take (i := 5) (oi := { dst := some 38, op := Op.indexAddr 27 (Operand.tmp 36) (Operand.tmp 37), type := 0, pos := "ref.go:92", after := #[{ on := 3, ground := Ground.data }, { on := 4, ground := Ground.data }], guard := none }) (v := ?v1105) rfl (by kernel_rfl) (by kernel_rfl) (by kernel_rfl) (fun _ _ _ h => h) (Or.inl ⟨by rfl, ?hy1105⟩) (by assumption) ?rest1105
          case hy1105 => (intro w1 hSw; (try dsimp only at hSw); obtain ⟨h0, h1⟩ := hSw; go_simp; try with_reducible rfl)
          try simp only [Act.put, List.setIfInBounds_toArray, List.set_cons_zero, List.set_cons_succ]
          refine wpAnyH_take (i := 6) (oi := { dst := some 39, op := Op.load 9 (Operand.tmp 38), type := 9, pos := "ref.go:92", after := #[{ on := 5, ground := Ground.data }], guard := none }) (v := ?v1106) rfl (by kernel_rfl) (by kernel_rfl) (by kernel_rfl) (fun _ _ _ h => h) (Or.inl ⟨by rfl, ?hy1106⟩) (by assumption) ?rest1106
          case hy1106 => (intro w1 hSw; (try dsimp only at hSw); obtain ⟨h0, h1⟩ := hSw; go_simp; try with_reducible rfl)
          try simp only [Act.put, List.setIfInBounds_toArray, List.set_cons_zero, List.set_cons_succ]
          refine wpAnyH_ready (rs := [1, 7]) (by kernel_rfl) (by simp) ?_
          refine AllReadyH.cons (o := { dst := some 34, op := Op.load 27 (Operand.tmp 33), type := 27, pos := "ref.go:92", after := #[{ on := 0, ground := Ground.data }], guard := none }) rfl (fun K hK => ?_) ?_
          · go_simp
            refine hK.out _ _ (⟨q15.pa.cell 1, q16.2⟩) (fun hHeld => ?_)
            clear hK K
            try simp only [Act.put, List.setIfInBounds_toArray, List.set_cons_zero, List.set_cons_succ]
            refine wpAnyH_ready (rs := [7]) (by kernel_rfl) (by simp) ?_
            refine AllReadyH.cons (o := { dst := some 40, op := Op.buildSlice 27 1 #[(0, Operand.tmp 39)], type := 27, pos := "ref.go:92", after := #[{ on := 6, ground := Ground.data }], guard := none }) rfl (fun K hK => ?_) AllReadyH.nil
            go_simp
            obtain ⟨w17, hw18, hb19, p20⟩ := alloc_new w12 #[.string ⟨y.toArray⟩] 9
            have q21 := q15.later hb19
            have q22 := q16.later hb19
            rw [hw18]
            refine hK.out _ _ (⟨q21.pa.cell 1, q22.2⟩) (fun hHeld => ?_)
            clear hK K
            try simp only [Act.put, List.setIfInBounds_toArray, List.set_cons_zero, List.set_cons_succ]
            refine wpAnyH_ready (rs := [8]) (by kernel_rfl) (by simp) ?_
            refine AllReadyH.cons (o := { dst := some 41, op := Op.call { callee := Callee.builtin Builtin.append, args := #[Operand.tmp 34, Operand.tmp 40], argTypes := #[27, 27] }, type := 27, pos := "ref.go:92", after := #[{ on := 1, ground := Ground.data }, { on := 7, ground := Ground.data }], guard := none }) rfl (fun K hK => ?_) AllReadyH.nil
            skip
            refine step_append_lies _ (by rfl) _ _ _ (by rfl) (R + 4) 9 i0 _ 1 16 Tryz.underlying27 hi hz0 hz1 hz2 rfl (by omega) _ _ _ (by rfl) q21.own ⟨w12.heap.size, 0, none⟩ 1 1 (tsV [y]) (by rfl) (by rfl) (World.news_of_block (cs := #[.string ⟨y.toArray⟩]) (t := 9) (fr := (0, 0)) p20) (tsV_one _) (by omega) (by unfold maxLen; omega) (by omega) (by have := q21.box.lt; omega) _ rfl ?_
            intro gg cc w23 hown7 hgrow7 _ _
            have hlen7 : (ns ++ [y]).length = ns.length + 1 := by simp
            rw [← tsV_append, ← hlen7] at hown7
            have RG := q21.grown HR.out hgrow7 hown7
            rw [hlen7] at RG
            have NN : CellAt w23 b (off + k) (.string ⟨y.toArray⟩) := ⟨Nat.lt_of_lt_of_le hbR (by have := RG.bel.size; have := HR.out; omega), (RG.bel.cell (p := ⟨b, _, none⟩) (by show b < w.heap.size; have := HR.out; omega)).trans (((q21.bel.cell (p := ⟨b, off + k, none⟩) (by show b < w.heap.size; have := HR.out; omega)).symm.trans q22.2))⟩
            have r7 := RG.box.cell 1
            have g7 := RG.box.frozen 1
            simp only [List.getElem?_toArray, List.getElem?_cons_zero, List.getElem?_cons_succ] at r7
            refine hK.out _ _ (⟨RG.pa.cell 1, NN.2⟩) (fun hHeld => ?_)
            clear hK K
            try simp only [Act.put, List.setIfInBounds_toArray, List.set_cons_zero, List.set_cons_succ]
            refine wpAnyH_take (i := 9) (oi := { dst := some 42, op := Op.fieldAddr 29 (Operand.tmp 5) 1, type := 0, pos := "ref.go:92", after := #[{ on := 0, ground := Ground.phase }, { on := 1, ground := Ground.phase }, { on := 2, ground := Ground.phase }, { on := 3, ground := Ground.phase }, { on := 4, ground := Ground.phase }, { on := 5, ground := Ground.phase }, { on := 6, ground := Ground.phase }, { on := 7, ground := Ground.phase }, { on := 8, ground := Ground.phase }], guard := none }) (v := ?v1107) rfl (by kernel_rfl) (by kernel_rfl) (by kernel_rfl) (fun _ _ _ h => h) (Or.inl ⟨by rfl, ?hy1107⟩) (by assumption) ?rest1107
            case hy1107 => (intro w1 hSw; (try dsimp only at hSw); obtain ⟨h0, h1⟩ := hSw; go_simp; try with_reducible rfl)
            try simp only [Act.put, List.setIfInBounds_toArray, List.set_cons_zero, List.set_cons_succ]
            refine wpAnyH_ready (rs := [10]) (by kernel_rfl) (by simp) ?_
            refine AllReadyH.cons (o := { dst := none, op := Op.store 27 (Operand.tmp 42) (Operand.tmp 41), type := 0, pos := "ref.go:92", after := #[{ on := 9, ground := Ground.data }, { on := 8, ground := Ground.data }, { on := 8, ground := Ground.chain }, { on := 0, ground := Ground.phase }, { on := 1, ground := Ground.phase }, { on := 2, ground := Ground.phase }, { on := 3, ground := Ground.phase }, { on := 4, ground := Ground.phase }, { on := 5, ground := Ground.phase }, { on := 6, ground := Ground.phase }, { on := 7, ground := Ground.phase }, { on := 8, ground := Ground.phase }], guard := none }) rfl (fun K hK => ?_) AllReadyH.nil
            go_simp
            refine hK.out _ _ (⟨cell_far (R := R + 3) (RG.pa.cell 1) (by omega), cell_far (R := R + 3) NN.2 (by omega)⟩) (fun hHeld => ?_)
            clear hK K
            refine wpAnyH_done (by kernel_rfl) ?_ _
            go_wp2_with fail
            go_roundw
            case rel => exact ⟨k + 1, ns ++ [y], _, _, by omega, by go_num, by rw [HY.out, HB1]; simp, RG.store hlen7 HR.out⟩
            case measure => simp [RowKit.intOf]; omega
          refine AllReadyH.cons (o := { dst := some 40, op := Op.buildSlice 27 1 #[(0, Operand.tmp 39)], type := 27, pos := "ref.go:92", after := #[{ on := 6, ground := Ground.data }], guard := none }) rfl (fun K hK => ?_) AllReadyH.nil
          go_simp
          obtain ⟨w24, hw25, hb26, p27⟩ := alloc_new w12 #[.string ⟨y.toArray⟩] 9
          have q28 := q15.later hb26
          have q29 := q16.later hb26
          rw [hw25]
          have r1 := q28.box.cell 1
          simp only [List.getElem?_toArray, List.getElem?_cons_zero, List.getElem?_cons_succ] at r1
          refine hK.out _ _ (⟨q28.pa.cell 1, q29.2⟩) (fun hHeld => ?_)
          clear hK K
          try simp only [Act.put, List.setIfInBounds_toArray, List.set_cons_zero, List.set_cons_succ]
          refine wpAnyH_ready (rs := [1]) (by kernel_rfl) (by simp) ?_
          refine AllReadyH.cons (o := { dst := some 34, op := Op.load 27 (Operand.tmp 33), type := 27, pos := "ref.go:92", after := #[{ on := 0, ground := Ground.data }], guard := none }) rfl (fun K hK => ?_) AllReadyH.nil
          go_simp
          refine hK.out _ _ (⟨q28.pa.cell 1, q29.2⟩) (fun hHeld => ?_)
          clear hK K
          try simp only [Act.put, List.setIfInBounds_toArray, List.set_cons_zero, List.set_cons_succ]
          refine wpAnyH_ready (rs := [8]) (by kernel_rfl) (by simp) ?_
          refine AllReadyH.cons (o := { dst := some 41, op := Op.call { callee := Callee.builtin Builtin.append, args := #[Operand.tmp 34, Operand.tmp 40], argTypes := #[27, 27] }, type := 27, pos := "ref.go:92", after := #[{ on := 1, ground := Ground.data }, { on := 7, ground := Ground.data }], guard := none }) rfl (fun K hK => ?_) AllReadyH.nil
          skip
          refine step_append_lies _ (by rfl) _ _ _ (by rfl) (R + 4) 9 i0 _ 1 16 Tryz.underlying27 hi hz0 hz1 hz2 rfl (by omega) _ _ _ (by rfl) q28.own ⟨w12.heap.size, 0, none⟩ 1 1 (tsV [y]) (by rfl) (by rfl) (World.news_of_block (cs := #[.string ⟨y.toArray⟩]) (t := 9) (fr := (0, 0)) p27) (tsV_one _) (by omega) (by unfold maxLen; omega) (by omega) (by have := q28.box.lt; omega) _ rfl ?_
          intro gg cc w30 hown7 hgrow7 _ _
          have hlen7 : (ns ++ [y]).length = ns.length + 1 := by simp
          rw [← tsV_append, ← hlen7] at hown7
          have RG := q28.grown HR.out hgrow7 hown7
          rw [hlen7] at RG
          have NN : CellAt w30 b (off + k) (.string ⟨y.toArray⟩) := ⟨Nat.lt_of_lt_of_le hbR (by have := RG.bel.size; have := HR.out; omega), (RG.bel.cell (p := ⟨b, _, none⟩) (by show b < w.heap.size; have := HR.out; omega)).trans (((q28.bel.cell (p := ⟨b, off + k, none⟩) (by show b < w.heap.size; have := HR.out; omega)).symm.trans q29.2))⟩
          have r7 := RG.box.cell 1
          have g7 := RG.box.frozen 1
          simp only [List.getElem?_toArray, List.getElem?_cons_zero, List.getElem?_cons_succ] at r7
          refine hK.out _ _ (⟨RG.pa.cell 1, NN.2⟩) (fun hHeld => ?_)
          clear hK K
          try simp only [Act.put, List.setIfInBounds_toArray, List.set_cons_zero, List.set_cons_succ]
          refine wpAnyH_take (i := 9) (oi := { dst := some 42, op := Op.fieldAddr 29 (Operand.tmp 5) 1, type := 0, pos := "ref.go:92", after := #[{ on := 0, ground := Ground.phase }, { on := 1, ground := Ground.phase }, { on := 2, ground := Ground.phase }, { on := 3, ground := Ground.phase }, { on := 4, ground := Ground.phase }, { on := 5, ground := Ground.phase }, { on := 6, ground := Ground.phase }, { on := 7, ground := Ground.phase }, { on := 8, ground := Ground.phase }], guard := none }) (v := ?v1108) rfl (by kernel_rfl) (by kernel_rfl) (by kernel_rfl) (fun _ _ _ h => h) (Or.inl ⟨by rfl, ?hy1108⟩) (by assumption) ?rest1108
          case hy1108 => (intro w1 hSw; (try dsimp only at hSw); obtain ⟨h0, h1⟩ := hSw; go_simp; try with_reducible rfl)
          try simp only [Act.put, List.setIfInBounds_toArray, List.set_cons_zero, List.set_cons_succ]
          refine wpAnyH_ready (rs := [10]) (by kernel_rfl) (by simp) ?_
          refine AllReadyH.cons (o := { dst := none, op := Op.store 27 (Operand.tmp 42) (Operand.tmp 41), type := 0, pos := "ref.go:92", after := #[{ on := 9, ground := Ground.data }, { on := 8, ground := Ground.data }, { on := 8, ground := Ground.chain }, { on := 0, ground := Ground.phase }, { on := 1, ground := Ground.phase }, { on := 2, ground := Ground.phase }, { on := 3, ground := Ground.phase }, { on := 4, ground := Ground.phase }, { on := 5, ground := Ground.phase }, { on := 6, ground := Ground.phase }, { on := 7, ground := Ground.phase }, { on := 8, ground := Ground.phase }], guard := none }) rfl (fun K hK => ?_) AllReadyH.nil
          go_simp
          refine hK.out _ _ (⟨cell_far (R := R + 3) (RG.pa.cell 1) (by omega), cell_far (R := R + 3) NN.2 (by omega)⟩) (fun hHeld => ?_)
          clear hK K
          refine wpAnyH_done (by kernel_rfl) ?_ _
          go_wp2_with fail
          go_roundw
          case rel => exact ⟨k + 1, ns ++ [y], _, _, by omega, by go_num, by rw [HY.out, HB1]; simp, RG.store hlen7 HR.out⟩
          case measure => simp [RowKit.intOf]; omega
      · have b1 : ¬ (k : Int) < (al.length : Int) := by omega
        have hE : al.take k = al := List.take_of_length_le (by omega)
        rw [hE, HSL.out] at hns
        subst hns
        have t0 := hr.box.cell 0
        have t1 := hr.box.cell 1
        have r0 := hr.res.cell 0
        have r1 := hr.res.cell 1
        have g0 := hr.res.frozen 0
        have g1 := hr.res.frozen 1
        simp only [List.getElem?_toArray, List.getElem?_cons_zero, List.getElem?_cons_succ] at t0 t1 r0 r1
        obtain ⟨z0, z1⟩ := two_cells (.bool false) (.slice a' sl.length c') r0 r1
        have ht0 : TsAt wr (.slice a' sl.length c') sl := RowV.own hr.own
        have ht := TsAt.set2 ht0 (.bool false) (.slice a' sl.length c') r0 r1
        have hb := below_set2 hr.bel (R := R + 2) (by have := HR.out; omega) (.bool false) (.slice a' sl.length c')
        have HX := Lib.hid (And.intro z0 (And.intro z1 (And.intro ht hb)))
        clear z0 z1 ht ht0 hb hr hE
        go_wp2_with fail
        obtain ⟨z0, z1, ht, hb⟩ := HX.out
        refine bodyPost_ret (v := .agg #[.bool false, .slice a' sl.length c']) ?_ rfl ⟨_, _, rfl, ht, hb⟩
        simp [results, Tryz.results37, go_sem, z0, z1]
  · go_loopw [6] (fun i wr => ∃ (k : Nat) (ns : List (List UInt8)) (a' : Option Addr) (c' : Nat), k ≤ al.length ∧ i = .int .i64 k ∧ (al.take k).filter (fun x => !bl.contains x) = ns ∧ Rl w R true ba (!ba) (.slice a1 al.length c1) (.slice a2 bl.length c2) ns a' c' wr) (fun i _ => al.length - (RowKit.intOf i).toNat)
    case atStart => exact ⟨0, _, _, _, Nat.zero_le _, rfl, rfl, HD0.out⟩
    case round =>
      obtain ⟨k, ns, a', c', hk, rfl, hns, hr⟩ := hrel
      have HNS := Lib.hid hns
      have HRo := Lib.hid hr
      have d0 : wr.cell? ⟨R, 1, none⟩ = some (.slice a1 al.length c1) := hr.pa.cell 1
      by_cases hlt : k < al.length
      · obtain ⟨y, hy⟩ : ∃ y, al[k]? = some y := ⟨_, List.getElem?_eq_getElem hlt⟩
        obtain ⟨a1', c1', e1, _, _, h3⟩ := H1.out.out
        injection e1 with q1 _ q3
        subst q1; subst q3
        obtain ⟨b, off, rfl, hbl, hc⟩ := h3 k hlt
        clear h3
        rw [(List.getElem?_eq_some_iff.1 hy).2] at hc
        have d1 : CellAt wr b (off + k) (.string ⟨y.toArray⟩) := ⟨Nat.lt_of_lt_of_le hbl hr.bel.size, (hr.bel.cell (p := ⟨b, _, none⟩) hbl).trans hc⟩
        have T2 := H2.out.below hr.bel
        have b0 : (0 : Int) ≤ (k : Int) := by omega
        have b1 : (k : Int) < (al.length : Int) := by omega
        have hbR : b < R := by have := HR.out; omega
        have hns1 := filt_snoc (fun x => !bl.contains x) hy
        rw [hns] at hns1
        have hnl : ns.length ≤ k := by rw [← hns]; exact Nat.le_trans (List.length_filter_le _ _) (by rw [List.length_take]; omega)
        have HY := Lib.hid hns1
        have DD := Lib.hid (And.intro d1 T2)
        clear hy hc hbl hr hns hns1 d1 T2
        obtain ⟨BB, hBB⟩ : ∃ BB, bl.contains y = BB := ⟨_, rfl⟩
        have HB := Lib.hid hBB
        clear hBB
        go_wp2_with fail
        obtain ⟨w31, hw32, hb33⟩ := drew_new wr
        have q34 := HRo.out.later hb33
        have q35 := DD.out.1.later hb33
        have q36 := DD.out.2.later hb33
        refine wp_region_held_drew (S := (fun w' => w'.cell? ⟨R + 1, 1, none⟩ = some (.slice a2 bl.length c2) ∧ w'.cell? ⟨R, 1, none⟩ = some (.slice (some ⟨b, off, none⟩) al.length c1) ∧ w'.cell? ⟨b, off + k, none⟩ = some (.string ⟨y.toArray⟩))) (by kernel_rfl) (by rw [hw32]; exact ⟨q34.pb.cell 1, q34.pa.cell 1, q35.2⟩) (fun hHeld => ?_)
        rw [hw32] at hHeld ⊢
        refine wpAnyH_take (i := 0) (oi := { dst := some 23, op := Op.fieldAddr 29 (Operand.tmp 3) 1, type := 0, pos := "ref.go:90", after := #[], guard := none }) (v := ?v2001) rfl (by kernel_rfl) (by kernel_rfl) (by kernel_rfl) (fun _ _ _ h => h) (Or.inl ⟨by rfl, ?hy2001⟩) (by assumption) ?rest2001
        case hy2001 => (intro w1 hSw; (try dsimp only at hSw); obtain ⟨h0, h1, h2⟩ := hSw; go_simp; try with_reducible rfl)
        try simp only [Act.put, List.setIfInBounds_toArray, List.set_cons_zero, List.set_cons_succ]
        refine wpAnyH_take (i := 1) (oi := { dst := some 24, op := Op.load 27 (Operand.tmp 23), type := 27, pos := "ref.go:90", after := #[{ on := 0, ground := Ground.data }], guard := none }) (v := ?v2002) rfl (by kernel_rfl) (by kernel_rfl) (by kernel_rfl) (fun _ _ _ h => h) (Or.inl ⟨by rfl, ?hy2002⟩) (by assumption) ?rest2002
        case hy2002 => (intro w1 hSw; (try dsimp only at hSw); obtain ⟨h0, h1, h2⟩ := hSw; go_simp; try with_reducible rfl)
        try simp only [Act.put, List.setIfInBounds_toArray, List.set_cons_zero, List.set_cons_succ]
        refine wpAnyH_take (i := 2) (oi := { dst := some 25, op := Op.fieldAddr 29 (Operand.tmp 2) 1, type := 0, pos := "ref.go:90", after := #[], guard := none }) (v := ?v2003) rfl (by kernel_rfl) (by kernel_rfl) (by kernel_rfl) (fun _ _ _ h => h) (Or.inl ⟨by rfl, ?hy2003⟩) (by assumption) ?rest2003
        case hy2003 => (intro w1 hSw; (try dsimp only at hSw); obtain ⟨h0, h1, h2⟩ := hSw; go_simp; try with_reducible rfl)
        try simp only [Act.put, List.setIfInBounds_toArray, List.set_cons_zero, List.set_cons_succ]
        refine wpAnyH_take (i := 3) (oi := { dst := some 26, op := Op.load 27 (Operand.tmp 25), type := 27, pos := "ref.go:90", after := #[{ on := 2, ground := Ground.data }], guard := none }) (v := ?v2004) rfl (by kernel_rfl) (by kernel_rfl) (by kernel_rfl) (fun _ _ _ h => h) (Or.inl ⟨by rfl, ?hy2004⟩) (by assumption) ?rest2004
        case hy2004 => (intro w1 hSw; (try dsimp only at hSw); obtain ⟨h0, h1, h2⟩ := hSw; go_simp; try with_reducible rfl)
        try simp only [Act.put, List.setIfInBounds_toArray, List.set_cons_zero, List.set_cons_succ]
        refine wpAnyH_take (i := 4) (oi := { dst := some 27, op := Op.move (Operand.tmp 6), type := 3, pos := "ref.go:90", after := #[], guard := none }) (v := ?v2005) rfl (by kernel_rfl) (by kernel_rfl) (by kernel_rfl) (fun _ _ _ h => h) (Or.inl ⟨by rfl, ?hy2005⟩) (by assumption) ?rest2005
        case hy2005 => (intro w1 hSw; (try dsimp only at hSw); obtain ⟨h0, h1, h2⟩ := hSw; go_simp; try with_reducible rfl)
        try simp only [Act.put, List.setIfInBounds_toArray, List.set_cons_zero, List.set_cons_succ]
        refine wpAnyH_take (i := 5) (oi := { dst := some 28, op := Op.indexAddr 27 (Operand.tmp 26) (Operand.tmp 27), type := 0, pos := "ref.go:90", after := #[{ on := 3, ground := Ground.data }, { on := 4, ground := Ground.data }], guard := none }) (v := ?v2006) rfl (by kernel_rfl) (by kernel_rfl) (by kernel_rfl) (fun _ _ _ h => h) (Or.inl ⟨by rfl, ?hy2006⟩) (by assumption) ?rest2006
        case hy2006 => (intro w1 hSw; (try dsimp only at hSw); obtain ⟨h0, h1, h2⟩ := hSw; go_simp; try with_reducible rfl)
        try simp only [Act.put, List.setIfInBounds_toArray, List.set_cons_zero, List.set_cons_succ]
        refine wpAnyH_take (i := 6) (oi := { dst := some 29, op := Op.load 9 (Operand.tmp 28), type := 9, pos := "ref.go:90", after := #[{ on := 5, ground := Ground.data }], guard := none }) (v := ?v2007) rfl (by kernel_rfl) (by kernel_rfl) (by kernel_rfl) (fun _ _ _ h => h) (Or.inl ⟨by rfl, ?hy2007⟩) (by assumption) ?rest2007
        case hy2007 => (intro w1 hSw; (try dsimp only at hSw); obtain ⟨h0, h1, h2⟩ := hSw; go_simp; try with_reducible rfl)
        try simp only [Act.put, List.setIfInBounds_toArray, List.set_cons_zero, List.set_cons_succ]
        refine wpAnyH_ready (rs := [7]) (by kernel_rfl) (by simp) ?_
        refine AllReadyH.cons (o := { dst := some 30, op := Op.call { callee := Callee.value (Operand.func 55), args := #[Operand.tmp 24, Operand.tmp 29], argTypes := #[27, 9] }, type := 4, pos := "ref.go:90", after := #[{ on := 1, ground := Ground.data }, { on := 6, ground := Ground.data }], guard := none }) rfl (fun K hK => ?_) AllReadyH.nil
        go_simp
        refine (listed_any (x := y) q36 HB.out).mono ?_
        rintro e w37 ⟨rfl, hb38⟩
        have q39 := q34.later hb38
        have q40 := q35.later hb38
        have q41 := q36.later hb38
        refine hK.out _ _ (⟨q39.pb.cell 1, q39.pa.cell 1, q40.2⟩) (fun hHeld => ?_)
        clear hK K
        try simp only [Act.put, List.setIfInBounds_toArray, List.set_cons_zero, List.set_cons_succ]
        refine wpAnyH_take (i := 8) (oi := { dst := some 7, op := Op.assign (Operand.tmp 30), type := 4, pos := "ref.go:90", after := #[{ on := 7, ground := Ground.data }, { on := 7, ground := Ground.chain }, { on := 0, ground := Ground.phase }, { on := 1, ground := Ground.phase }, { on := 2, ground := Ground.phase }, { on := 3, ground := Ground.phase }, { on := 4, ground := Ground.phase }, { on := 5, ground := Ground.phase }, { on := 6, ground := Ground.phase }, { on := 7, ground := Ground.phase }], guard := none }) (v := ?v2008) rfl (by kernel_rfl) (by kernel_rfl) (by kernel_rfl) (fun _ _ _ h => h) (Or.inl ⟨by rfl, ?hy2008⟩) (by assumption) ?rest2008
        case hy2008 => (intro w1 hSw; (try dsimp only at hSw); obtain ⟨h0, h1, h2⟩ := hSw; go_simp; try with_reducible rfl)
        try simp only [Act.put, List.setIfInBounds_toArray, List.set_cons_zero, List.set_cons_succ]
        refine wpAnyH_done (by kernel_rfl) ?_ _
        clear d0
        have HD1 := Lib.hid q39
        have HN1 := Lib.hid q40
        cases BB with
        | true =>
          have HB1 := HB.out
          go_wp2_with fail
          go_roundw
          case rel => exact ⟨k + 1, ns, _, _, by omega, by go_num, by rw [HY.out, HB1]; simp, HD1.out⟩
          case measure => simp [RowKit.intOf]; omega
        | false =>
          have HB1 := HB.out
          have d0 := q39.pa.cell 1
          simp only [List.getElem?_toArray, List.getElem?_cons_zero, List.getElem?_cons_succ] at d0
          go_wp2_with fail
          obtain ⟨w42, hw43, hb44⟩ := drew_new w37
          have q45 := HD1.out.later hb44
          have q46 := HN1.out.later hb44
          refine wp_region_held_drew (S := (fun w' => w'.cell? ⟨R, 1, none⟩ = some (.slice (some ⟨b, off, none⟩) al.length c1) ∧ w'.cell? ⟨b, off + k, none⟩ = some (.string ⟨y.toArray⟩))) (by kernel_rfl) (by rw [hw43]; exact ⟨q45.pa.cell 1, q46.2⟩) (fun hHeld => ?_)
          rw [hw43] at hHeld ⊢
          have r1d := q45.box.cell 1
          have g1d := q45.box.frozen 1
          simp only [List.getElem?_toArray, List.getElem?_cons_zero, List.getElem?_cons_succ] at r1d
          refine wpAnyH_take (i := 0) (oi := { dst := some 33, op := Op.fieldAddr 29 (Operand.tmp 5) 1, type := 0, pos := "ref.go:92", after := #[], guard := none }) (v := ?v2101) rfl (by kernel_rfl) (by kernel_rfl) (by kernel_rfl) (fun _ _ _ h => h) (Or.inl ⟨by rfl, ?hy2101⟩) (by assumption) ?rest2101
          case hy2101 => (intro w1 hSw; (try dsimp only at hSw); obtain ⟨h0, h1⟩ := hSw; go_simp; try with_reducible rfl)
          try simp only [Act.put, List.setIfInBounds_toArray, List.set_cons_zero, List.set_cons_succ]
          refine wpAnyH_take (i := 2) (oi := { dst := some 35, op := Op.fieldAddr 29 (Operand.tmp 2) 1, type := 0, pos := "ref.go:92", after := #[], guard := none }) (v := ?v2102) rfl (by kernel_rfl) (by kernel_rfl) (by kernel_rfl) (fun _ _ _ h => h) (Or.inl ⟨by rfl, ?hy2102⟩) (by assumption) ?rest2102
          case hy2102 => (intro w1 hSw; (try dsimp only at hSw); obtain ⟨h0, h1⟩ := hSw; go_simp; try with_reducible rfl)
          try simp only [Act.put, List.setIfInBounds_toArray, List.set_cons_zero, List.set_cons_succ]
          refine wpAnyH_take (i := 3) (oi := { dst := some 36, op := Op.load 27 (Operand.tmp 35), type := 27, pos := "ref.go:92", after := #[{ on := 2, ground := Ground.data }], guard := none }) (v := ?v2103) rfl (by kernel_rfl) (by kernel_rfl) (by kernel_rfl) (fun _ _ _ h => h) (Or.inl ⟨by rfl, ?hy2103⟩) (by assumption) ?rest2103
          case hy2103 => (intro w1 hSw; (try dsimp only at hSw); obtain ⟨h0, h1⟩ := hSw; go_simp; try with_reducible rfl)
          try simp only [Act.put, List.setIfInBounds_toArray, List.set_cons_zero, List.set_cons_succ]
          refine wpAnyH_take (i := 4) (oi := { dst := some 37, op := Op.move (Operand.tmp 6), type := 3, pos := "ref.go:92", after := #[], guard := none }) (v := ?v2104) rfl (by kernel_rfl) (by kernel_rfl) (by kernel_rfl) (fun _ _ _ h => h) (Or.inl ⟨by rfl, ?hy2104⟩) (by assumption) ?rest2104
          case hy2104 => (intro w1 hSw; (try dsimp only at hSw); obtain ⟨h0, h1⟩ := hSw; go_simp; try with_reducible rfl)
          try simp only [Act.put, List.setIfInBounds_toArray, List.set_cons_zero, List.set_cons_succ]
          refine wpAnyH_take (i := 5) (oi := { dst := some 38, op := Op.indexAddr 27 (Operand.tmp 36) (Operand.tmp 37), type := 0, pos := "ref.go:92", after := #[{ on := 3, ground := Ground.data }, { on := 4, ground := Ground.data }], guard := none }) (v := ?v2105) rfl (by kernel_rfl) (by kernel_rfl) (by kernel_rfl) (fun _ _ _ h => h) (Or.inl ⟨by rfl, ?hy2105⟩) (by assumption) ?rest2105
          case hy2105 => (intro w1 hSw; (try dsimp only at hSw); obtain ⟨h0, h1⟩ := hSw; go_simp; try with_reducible rfl)
          try simp only [Act.put, List.setIfInBounds_toArray, List.set_cons_zero, List.set_cons_succ]
          refine wpAnyH_take (i := 6) (oi := { dst := some 39, op := Op.load 9 (Operand.tmp 38), type := 9, pos := "ref.go:92", after := #[{ on := 5, ground := Ground.data }], guard := none }) (v := ?v2106) rfl (by kernel_rfl) (by kernel_rfl) (by kernel_rfl) (fun _ _ _ h => h) (Or.inl ⟨by rfl, ?hy2106⟩) (by assumption) ?rest2106
          case hy2106 => (intro w1 hSw; (try dsimp only at hSw); obtain ⟨h0, h1⟩ := hSw; go_simp; try with_reducible rfl)
          try simp only [Act.put, List.setIfInBounds_toArray, List.set_cons_zero, List.set_cons_succ]
          refine wpAnyH_ready (rs := [1, 7]) (by kernel_rfl) (by simp) ?_
          refine AllReadyH.cons (o := { dst := some 34, op := Op.load 27 (Operand.tmp 33), type := 27, pos := "ref.go:92", after := #[{ on := 0, ground := Ground.data }], guard := none }) rfl (fun K hK => ?_) ?_
          · go_simp
            refine hK.out _ _ (⟨q45.pa.cell 1, q46.2⟩) (fun hHeld => ?_)
            clear hK K
            try simp only [Act.put, List.setIfInBounds_toArray, List.set_cons_zero, List.set_cons_succ]
            refine wpAnyH_ready (rs := [7]) (by kernel_rfl) (by simp) ?_
            refine AllReadyH.cons (o := { dst := some 40, op := Op.buildSlice 27 1 #[(0, Operand.tmp 39)], type := 27, pos := "ref.go:92", after := #[{ on := 6, ground := Ground.data }], guard := none }) rfl (fun K hK => ?_) AllReadyH.nil
            go_simp
            obtain ⟨w47, hw48, hb49, p50⟩ := alloc_new w42 #[.string ⟨y.toArray⟩] 9
            have q51 := q45.later hb49
            have q52 := q46.later hb49
            rw [hw48]
            refine hK.out _ _ (⟨q51.pa.cell 1, q52.2⟩) (fun hHeld => ?_)
            clear hK K
            try simp only [Act.put, List.setIfInBounds_toArray, List.set_cons_zero, List.set_cons_succ]
            refine wpAnyH_ready (rs := [8]) (by kernel_rfl) (by simp) ?_
            refine AllReadyH.cons (o := { dst := some 41, op := Op.call { callee := Callee.builtin Builtin.append, args := #[Operand.tmp 34, Operand.tmp 40], argTypes := #[27, 27] }, type := 27, pos := "ref.go:92", after := #[{ on := 1, ground := Ground.data }, { on := 7, ground := Ground.data }], guard := none }) rfl (fun K hK => ?_) AllReadyH.nil
            skip
            refine step_append_lies _ (by rfl) _ _ _ (by rfl) (R + 4) 9 i0 _ 1 16 Tryz.underlying27 hi hz0 hz1 hz2 rfl (by omega) _ _ _ (by rfl) q51.own ⟨w42.heap.size, 0, none⟩ 1 1 (tsV [y]) (by rfl) (by rfl) (World.news_of_block (cs := #[.string ⟨y.toArray⟩]) (t := 9) (fr := (0, 0)) p50) (tsV_one _) (by omega) (by unfold maxLen; omega) (by omega) (by have := q51.box.lt; omega) _ rfl ?_
            intro gg cc w53 hown7 hgrow7 _ _
            have hlen7 : (ns ++ [y]).length = ns.length + 1 := by simp
            rw [← tsV_append, ← hlen7] at hown7
            have RG := q51.grown HR.out hgrow7 hown7
            rw [hlen7] at RG
            have NN : CellAt w53 b (off + k) (.string ⟨y.toArray⟩) := ⟨Nat.lt_of_lt_of_le hbR (by have := RG.bel.size; have := HR.out; omega), (RG.bel.cell (p := ⟨b, _, none⟩) (by show b < w.heap.size; have := HR.out; omega)).trans (((q51.bel.cell (p := ⟨b, off + k, none⟩) (by show b < w.heap.size; have := HR.out; omega)).symm.trans q52.2))⟩
            have r7 := RG.box.cell 1
            have g7 := RG.box.frozen 1
            simp only [List.getElem?_toArray, List.getElem?_cons_zero, List.getElem?_cons_succ] at r7
            refine hK.out _ _ (⟨RG.pa.cell 1, NN.2⟩) (fun hHeld => ?_)
            clear hK K
            try simp only [Act.put, List.setIfInBounds_toArray, List.set_cons_zero, List.set_cons_succ]
            refine wpAnyH_take (i := 9) (oi := { dst := some 42, op := Op.fieldAddr 29 (Operand.tmp 5) 1, type := 0, pos := "ref.go:92", after := #[{ on := 0, ground := Ground.phase }, { on := 1, ground := Ground.phase }, { on := 2, ground := Ground.phase }, { on := 3, ground := Ground.phase }, { on := 4, ground := Ground.phase }, { on := 5, ground := Ground.phase }, { on := 6, ground := Ground.phase }, { on := 7, ground := Ground.phase }, { on := 8, ground := Ground.phase }], guard := none }) (v := ?v2107) rfl (by kernel_rfl) (by kernel_rfl) (by kernel_rfl) (fun _ _ _ h => h) (Or.inl ⟨by rfl, ?hy2107⟩) (by assumption) ?rest2107
            case hy2107 => (intro w1 hSw; (try dsimp only at hSw); obtain ⟨h0, h1⟩ := hSw; go_simp; try with_reducible rfl)
            try simp only [Act.put, List.setIfInBounds_toArray, List.set_cons_zero, List.set_cons_succ]
            refine wpAnyH_ready (rs := [10]) (by kernel_rfl) (by simp) ?_
            refine AllReadyH.cons (o := { dst := none, op := Op.store 27 (Operand.tmp 42) (Operand.tmp 41), type := 0, pos := "ref.go:92", after := #[{ on := 9, ground := Ground.data }, { on := 8, ground := Ground.data }, { on := 8, ground := Ground.chain }, { on := 0, ground := Ground.phase }, { on := 1, ground := Ground.phase }, { on := 2, ground := Ground.phase }, { on := 3, ground := Ground.phase }, { on := 4, ground := Ground.phase }, { on := 5, ground := Ground.phase }, { on := 6, ground := Ground.phase }, { on := 7, ground := Ground.phase }, { on := 8, ground := Ground.phase }], guard := none }) rfl (fun K hK => ?_) AllReadyH.nil
            go_simp
            refine hK.out _ _ (⟨cell_far (R := R + 3) (RG.pa.cell 1) (by omega), cell_far (R := R + 3) NN.2 (by omega)⟩) (fun hHeld => ?_)
            clear hK K
            refine wpAnyH_done (by kernel_rfl) ?_ _
            go_wp2_with fail
            go_roundw
            case rel => exact ⟨k + 1, ns ++ [y], _, _, by omega, by go_num, by rw [HY.out, HB1]; simp, RG.store hlen7 HR.out⟩
            case measure => simp [RowKit.intOf]; omega
          refine AllReadyH.cons (o := { dst := some 40, op := Op.buildSlice 27 1 #[(0, Operand.tmp 39)], type := 27, pos := "ref.go:92", after := #[{ on := 6, ground := Ground.data }], guard := none }) rfl (fun K hK => ?_) AllReadyH.nil
          go_simp
          obtain ⟨w54, hw55, hb56, p57⟩ := alloc_new w42 #[.string ⟨y.toArray⟩] 9
          have q58 := q45.later hb56
          have q59 := q46.later hb56
          rw [hw55]
          have r1 := q58.box.cell 1
          simp only [List.getElem?_toArray, List.getElem?_cons_zero, List.getElem?_cons_succ] at r1
          refine hK.out _ _ (⟨q58.pa.cell 1, q59.2⟩) (fun hHeld => ?_)
          clear hK K
          try simp only [Act.put, List.setIfInBounds_toArray, List.set_cons_zero, List.set_cons_succ]
          refine wpAnyH_ready (rs := [1]) (by kernel_rfl) (by simp) ?_
          refine AllReadyH.cons (o := { dst := some 34, op := Op.load 27 (Operand.tmp 33), type := 27, pos := "ref.go:92", after := #[{ on := 0, ground := Ground.data }], guard := none }) rfl (fun K hK => ?_) AllReadyH.nil
          go_simp
          refine hK.out _ _ (⟨q58.pa.cell 1, q59.2⟩) (fun hHeld => ?_)
          clear hK K
          try simp only [Act.put, List.setIfInBounds_toArray, List.set_cons_zero, List.set_cons_succ]
          refine wpAnyH_ready (rs := [8]) (by kernel_rfl) (by simp) ?_
          refine AllReadyH.cons (o := { dst := some 41, op := Op.call { callee := Callee.builtin Builtin.append, args := #[Operand.tmp 34, Operand.tmp 40], argTypes := #[27, 27] }, type := 27, pos := "ref.go:92", after := #[{ on := 1, ground := Ground.data }, { on := 7, ground := Ground.data }], guard := none }) rfl (fun K hK => ?_) AllReadyH.nil
          skip
          refine step_append_lies _ (by rfl) _ _ _ (by rfl) (R + 4) 9 i0 _ 1 16 Tryz.underlying27 hi hz0 hz1 hz2 rfl (by omega) _ _ _ (by rfl) q58.own ⟨w42.heap.size, 0, none⟩ 1 1 (tsV [y]) (by rfl) (by rfl) (World.news_of_block (cs := #[.string ⟨y.toArray⟩]) (t := 9) (fr := (0, 0)) p57) (tsV_one _) (by omega) (by unfold maxLen; omega) (by omega) (by have := q58.box.lt; omega) _ rfl ?_
          intro gg cc w60 hown7 hgrow7 _ _
          have hlen7 : (ns ++ [y]).length = ns.length + 1 := by simp
          rw [← tsV_append, ← hlen7] at hown7
          have RG := q58.grown HR.out hgrow7 hown7
          rw [hlen7] at RG
          have NN : CellAt w60 b (off + k) (.string ⟨y.toArray⟩) := ⟨Nat.lt_of_lt_of_le hbR (by have := RG.bel.size; have := HR.out; omega), (RG.bel.cell (p := ⟨b, _, none⟩) (by show b < w.heap.size; have := HR.out; omega)).trans (((q58.bel.cell (p := ⟨b, off + k, none⟩) (by show b < w.heap.size; have := HR.out; omega)).symm.trans q59.2))⟩
          have r7 := RG.box.cell 1
          have g7 := RG.box.frozen 1
          simp only [List.getElem?_toArray, List.getElem?_cons_zero, List.getElem?_cons_succ] at r7
          refine hK.out _ _ (⟨RG.pa.cell 1, NN.2⟩) (fun hHeld => ?_)
          clear hK K
          try simp only [Act.put, List.setIfInBounds_toArray, List.set_cons_zero, List.set_cons_succ]
          refine wpAnyH_take (i := 9) (oi := { dst := some 42, op := Op.fieldAddr 29 (Operand.tmp 5) 1, type := 0, pos := "ref.go:92", after := #[{ on := 0, ground := Ground.phase }, { on := 1, ground := Ground.phase }, { on := 2, ground := Ground.phase }, { on := 3, ground := Ground.phase }, { on := 4, ground := Ground.phase }, { on := 5, ground := Ground.phase }, { on := 6, ground := Ground.phase }, { on := 7, ground := Ground.phase }, { on := 8, ground := Ground.phase }], guard := none }) (v := ?v2108) rfl (by kernel_rfl) (by kernel_rfl) (by kernel_rfl) (fun _ _ _ h => h) (Or.inl ⟨by rfl, ?hy2108⟩) (by assumption) ?rest2108
          case hy2108 => (intro w1 hSw; (try dsimp only at hSw); obtain ⟨h0, h1⟩ := hSw; go_simp; try with_reducible rfl)
          try simp only [Act.put, List.setIfInBounds_toArray, List.set_cons_zero, List.set_cons_succ]
          refine wpAnyH_ready (rs := [10]) (by kernel_rfl) (by simp) ?_
          refine AllReadyH.cons (o := { dst := none, op := Op.store 27 (Operand.tmp 42) (Operand.tmp 41), type := 0, pos := "ref.go:92", after := #[{ on := 9, ground := Ground.data }, { on := 8, ground := Ground.data }, { on := 8, ground := Ground.chain }, { on := 0, ground := Ground.phase }, { on := 1, ground := Ground.phase }, { on := 2, ground := Ground.phase }, { on := 3, ground := Ground.phase }, { on := 4, ground := Ground.phase }, { on := 5, ground := Ground.phase }, { on := 6, ground := Ground.phase }, { on := 7, ground := Ground.phase }, { on := 8, ground := Ground.phase }], guard := none }) rfl (fun K hK => ?_) AllReadyH.nil
          go_simp
          refine hK.out _ _ (⟨cell_far (R := R + 3) (RG.pa.cell 1) (by omega), cell_far (R := R + 3) NN.2 (by omega)⟩) (fun hHeld => ?_)
          clear hK K
          refine wpAnyH_done (by kernel_rfl) ?_ _
          go_wp2_with fail
          go_roundw
          case rel => exact ⟨k + 1, ns ++ [y], _, _, by omega, by go_num, by rw [HY.out, HB1]; simp, RG.store hlen7 HR.out⟩
          case measure => simp [RowKit.intOf]; omega
      · have b1 : ¬ (k : Int) < (al.length : Int) := by omega
        have hE : al.take k = al := List.take_of_length_le (by omega)
        rw [hE, HSL.out] at hns
        subst hns
        have t0 := hr.box.cell 0
        have t1 := hr.box.cell 1
        have r0 := hr.res.cell 0
        have r1 := hr.res.cell 1
        have g0 := hr.res.frozen 0
        have g1 := hr.res.frozen 1
        simp only [List.getElem?_toArray, List.getElem?_cons_zero, List.getElem?_cons_succ] at t0 t1 r0 r1
        obtain ⟨z0, z1⟩ := two_cells (.bool (!ba)) (.slice a' sl.length c') r0 r1
        have ht0 : TsAt wr (.slice a' sl.length c') sl := RowV.own hr.own
        have ht := TsAt.set2 ht0 (.bool (!ba)) (.slice a' sl.length c') r0 r1
        have hb := below_set2 hr.bel (R := R + 2) (by have := HR.out; omega) (.bool (!ba)) (.slice a' sl.length c')
        have HX := Lib.hid (And.intro z0 (And.intro z1 (And.intro ht hb)))
        clear z0 z1 ht ht0 hb hr hE
        go_wp2_with fail
        obtain ⟨z0, z1, ht, hb⟩ := HX.out
        refine bodyPost_ret (v := .agg #[.bool (!ba), .slice a' sl.length c']) ?_ rfl ⟨_, _, rfl, ht, hb⟩
        simp [results, Tryz.results37, go_sem, z0, z1]
end Go.Proofs.YtkjfafnnnkjoeaaGreatDoor
namespace Go.Proofs.YtkjfafnnnkjoeaaGreatDoor
open Go.RowKit Go.Lib

def insL (l : List (List UInt8)) : List (List UInt8) := l.foldl ins []
theorem insL_snoc (l : List (List UInt8)) (x : List UInt8) : insL (l ++ [x]) = ins (insL l) x := by simp [insL, List.foldl_append]
theorem insL_facts (l : List (List UInt8)) : Rises (insL l) ∧ (∀ x, x ∈ insL l ↔ x ∈ l) ∧ (insL l).length ≤ l.length := by
  have key : ∀ (l acc : List (List UInt8)), Rises acc → Rises (l.foldl ins acc) ∧ (∀ x, x ∈ l.foldl ins acc ↔ x ∈ acc ∨ x ∈ l) ∧ (l.foldl ins acc).length ≤ acc.length + l.length := by
    intro l
    induction l with
    | nil => intro acc h; exact ⟨h, fun x => by simp, by simp⟩
    | cons y l ih =>
      intro acc h
      obtain ⟨h1, h2, h3⟩ := ih (ins acc y) (ins_rises h y)
      refine ⟨h1, fun x => ?_, ?_⟩
      · rw [List.foldl_cons, h2, ins_mem, List.mem_cons]
        constructor
        · rintro ((h | h) | h)
          · exact .inl h
          · exact .inr (.inl h)
          · exact .inr (.inr h)
        · rintro (h | h | h)
          · exact .inl (.inl h)
          · exact .inl (.inr h)
          · exact .inr h
      · rw [List.foldl_cons, List.length_cons]
        have := ins_len acc y; omega
  obtain ⟨h1, h2, h3⟩ := key l [] List.Pairwise.nil
  exact ⟨h1, fun x => by rw [insL, h2]; simp, by simpa [insL] using h3⟩
theorem insL_srt (l : List (List UInt8)) : insL l = srt l := (srt_eq (insL_facts l).1 (fun x => ((insL_facts l).2.1 x).symm)).symm
/-- What the loops hold. -/
structure Ru (w : World) (R : Nat) (sa : Bool) (ns : List (List UInt8)) (a : Option Addr) (c : Nat) (wr : World) : Prop where
  box : Blk wr (R + 1) #[.bool sa, .slice a ns.length c] 29
  res : Blk wr R #[.bool false, .slice none 0 0] 29
  ts : TsAt wr (.slice a ns.length c) ns
  bel : Below w.heap.size w wr
theorem Ru.later {w : World} {R : Nat} {sa : Bool} {ns : List (List UInt8)} {a : Option Addr} {c : Nat} {wr w' : World} (h : Ru w R sa ns a c wr) (hb : Below wr.heap.size wr w') : Ru w R sa ns a c w' :=
  ⟨h.box.later hb, h.res.later hb, h.ts.later hb, h.bel.trans (hb.mono h.bel.size)⟩
theorem Ru.orAll {w : World} {R : Nat} {sa : Bool} {ns : List (List UInt8)} {a : Option Addr} {c : Nat} {wr : World} (h : Ru w R sa ns a c wr) (hR : w.heap.size ≤ R) (v : Bool) : Ru w R v ns a c (wr.setCell ⟨R + 1, 0, none⟩ (.bool v)) where
  box := h.box.set 0 _
  res := (heap_setCell_other _ _ _ _ (by simp)).trans h.res
  ts := h.ts.set _ (h.box.cell 0) (fun s e => by cases e)
  bel := h.bel.setCell (p := ⟨R + 1, 0, none⟩) (by show w.heap.size ≤ R + 1; omega) _
theorem Ru.put {w : World} {R : Nat} {sa : Bool} {ns ns' : List (List UInt8)} {a a' : Option Addr} {c c' : Nat} {wr : World} (h : Ru w R sa ns a c wr) (hR : w.heap.size ≤ R) (ht : TsAt wr (.slice a' ns'.length c') ns') : Ru w R sa ns' a' c' (wr.setCell ⟨R + 1, 1, none⟩ (.slice a' ns'.length c')) where
  box := h.box.set 1 _
  res := (heap_setCell_other _ _ _ _ (by simp)).trans h.res
  ts := ht.set _ (h.box.cell 1) (fun s e => by cases e)
  bel := h.bel.setCell (p := ⟨R + 1, 1, none⟩) (by show w.heap.size ≤ R + 1; omega) _
theorem uflat_next (ss : List Ns) {k : Nat} {s : Ns} (h : ss[k]? = some s) : (ss.take (k + 1)).flatMap (·.ns) = (ss.take k).flatMap (·.ns) ++ s.ns := by
  rw [List.take_add_one, h, List.flatMap_append]; simp
theorem uflat_le (ss : List Ns) {k j : Nat} {s : Ns} (h : ss[k]? = some s) : ((ss.take k).flatMap (·.ns) ++ s.ns.take j).length ≤ (ss.flatMap (·.ns)).length := by
  have h1 := uflat_next ss h
  have h2 : ((ss.take (k + 1)) ++ ss.drop (k + 1)).flatMap (·.ns) = ss.flatMap (·.ns) := by rw [List.take_append_drop]
  rw [List.flatMap_append, h1] at h2
  rw [← h2]
  simp only [List.length_append, List.length_take]
  omega

set_option maxRecDepth 100000 in
set_option maxHeartbeats 4000000 in
theorem runion_any {a : Option Addr} {n c : Nat} {ss : List Ns} {w : World} {sa : Bool} {sl : List (List UInt8)} (h : SetsAt w a ss) (hl : ss.length = n) (hf : NssFit ss) (hz : ((ss.flatMap (·.ns)).length + 1) * 16 ≤ 140737488355328) (he : nUnion ss = ⟨sa, sl⟩) :
    Calls Tryz.prog 39 #[.slice a n c] w (SetPost sa sl w) := by
  have H := Lib.hid h
  have HF := Lib.hid hf
  have HL := Lib.hid hl
  have hn : n ≤ 1000000 := by rw [← hl]; exact hf.2.2
  have HA := Lib.hid (show ss.any (·.all) = sa from congrArg Ns.all he)
  have HE := Lib.hid (show srt (ss.flatMap (·.ns)) = sl from congrArg Ns.ns he)
  obtain ⟨R, hR⟩ : ∃ R, w.heap.size = R := ⟨_, rfl⟩
  have HR := Lib.hid hR
  obtain ⟨w1, hw1, hb1, p1⟩ := alloc_new w #[.bool false, .slice none 0 0] 29
  obtain ⟨w2, hw2, hb2, p2⟩ := alloc_new w1 #[.bool false, .slice none 0 0] 29
  have e1 : w1.heap.size = R + 1 := by rw [← hw1, World.size_alloc, hR]
  have D0 : Ru w R false [] none 0 w2 := by
    have q1 := p1.later hb2
    rw [hR] at q1; rw [e1] at p2
    exact ⟨p2, q1, RowV.nil _ _ _ (Nat.zero_le _), Base.later hb1 hb2⟩
  have HD0 := Lib.hid D0
  have HW := Lib.hid (And.intro hw1 hw2)
  clear he h hl hf hb1 hb2 hw1 hw2 p1 p2 D0
  go_enter Tryz.func39, Tryz.ntmps39
  go_wp2_with fail
  rw [HW.out.1, HW.out.2]
  go_loopw [4] (fun i wr => ∃ (k : Nat) (ta : Bool) (ns : List (List UInt8)) (a' : Option Addr) (c' : Nat), k ≤ n ∧ i = .int .i64 k ∧ (ss.take k).any (·.all) = ta ∧ insL ((ss.take k).flatMap (·.ns)) = ns ∧ Ru w R ta ns a' c' wr) (fun i _ => n - (RowKit.intOf i).toNat)
  case atStart => exact ⟨0, _, _, _, _, Nat.zero_le _, rfl, rfl, rfl, HD0.out⟩
  case round =>
    obtain ⟨k, ta, ns, a', c', hk, rfl, hta, hns, hr⟩ := hrel
    have r0 : wr.cell? ⟨R + 1, 0, none⟩ = some (.bool ta) := hr.box.cell 0
    have f0 := hr.box.frozen 0
    by_cases hlt : k < n
    · obtain ⟨s, hs⟩ : ∃ s, ss[k]? = some s := ⟨_, List.getElem?_eq_getElem (by have := HL.out; omega)⟩
      obtain ⟨b, off, av, cs, rfl, hbl, h1, h2, h3⟩ := H.out k s hs
      have hbR : b < R := by have := HR.out; omega
      have d1 : wr.cell? ⟨b, off + k * 2, none⟩ = some (.bool s.all) := (hr.bel.cell (p := ⟨b, _, none⟩) hbl).trans h1
      have b0 : (0 : Int) ≤ (k : Int) := by omega
      have b1 : (k : Int) < (n : Int) := by omega
      have hat := any_take ss hs
      rw [hta] at hat
      have hflat := uflat_next ss hs
      have hfl : ∀ j, ((ss.take k).flatMap (·.ns) ++ s.ns.take j).length ≤ (ss.flatMap (·.ns)).length := fun j => uflat_le ss hs
      have hm63 : s.ns.length ≤ 9223372036854775807 := by
        obtain ⟨_, _, e, q1, q2, _⟩ := h3.out
        injection e with _ _ e3
        unfold maxLen at q2; omega
      have HT := Lib.hid (And.intro hat (And.intro hflat (And.intro hfl (And.intro h2 (And.intro h3 hns)))))
      have hr1 := hr.orAll (by have := HR.out; omega) (ta || s.all)
      have HRo := Lib.hid hr1
      clear hs h1 h2 h3 hr hr1 hat hflat hfl hns hta
      obtain ⟨w3, hw3⟩ : ∃ w3, wr.setCell ⟨R + 1, 0, none⟩ (.bool (ta || s.all)) = w3 := ⟨_, rfl⟩
      have HW3 := Lib.hid hw3
      have HRu : Hid (Ru w R (ta || s.all) ns a' c' w3) := Lib.hid (by rw [← HW3.out]; exact HRo.out)
      clear HRo hw3
      cases ta
      · simp only [Bool.false_or, Bool.true_or] at HW3 HRu
        go_wp2_with fail
        rw [HW3.out]
        go_loopw [5] (fun i wr => ∃ (j : Nat) (ns' : List (List UInt8)) (a'' : Option Addr) (c'' : Nat), j ≤ s.ns.length ∧ i = .int .i64 j ∧ insL ((ss.take k).flatMap (·.ns) ++ s.ns.take j) = ns' ∧ Ru w R s.all ns' a'' c'' wr) (fun i _ => s.ns.length - (RowKit.intOf i).toNat)
        case atStart => exact ⟨0, ns, _, _, Nat.zero_le _, rfl, by rw [List.take_zero, List.append_nil]; exact HT.out.2.2.2.2.2, HRu.out⟩
        case round =>
          obtain ⟨j, nj, aj, cj, hj, rfl, hnj, hru⟩ := hrel
          have d2 : wr.cell? ⟨b, off + k * 2 + 1, none⟩ = some (.slice av s.ns.length cs) := (hru.bel.cell (p := ⟨b, _, none⟩) (by show b < w.heap.size; have := HR.out; omega)).trans HT.out.2.2.2.1
          by_cases hjl : j < s.ns.length
          · obtain ⟨y, hy⟩ : ∃ y, s.ns[j]? = some y := ⟨_, List.getElem?_eq_getElem hjl⟩
            obtain ⟨a1', c1', e1', _, _, h3⟩ := HT.out.2.2.2.2.1.out
            injection e1' with q1 _ q3
            subst q1; subst q3
            obtain ⟨b2, off2, rfl, hbl2, hc⟩ := h3 j hjl
            clear h3
            rw [(List.getElem?_eq_some_iff.1 hy).2] at hc
            have hb2R : b2 < R := by have := HR.out; omega
            have N1 : CellAt wr b (off + k * 2 + 1) (.slice (some ⟨b2, off2, none⟩) s.ns.length cs) := ⟨Nat.lt_of_lt_of_le (by have := HR.out; omega) hru.bel.size, d2⟩
            have N2 : CellAt wr b2 (off2 + j) (.string ⟨y.toArray⟩) := ⟨Nat.lt_of_lt_of_le hbl2 hru.bel.size, (hru.bel.cell (p := ⟨b2, _, none⟩) hbl2).trans hc⟩
            have j0 : (0 : Int) ≤ (j : Int) := by omega
            have j1 : (j : Int) < (s.ns.length : Int) := by omega
            have hins : insL ((ss.take k).flatMap (·.ns) ++ s.ns.take (j + 1)) = ins nj y := by
              rw [List.take_add_one, hy, ← hnj, ← List.append_assoc]; exact insL_snoc _ _
            have hnl : (nj.length + 1) * 16 ≤ 140737488355328 := by
              have q1 := (insL_facts ((ss.take k).flatMap (·.ns) ++ s.ns.take j)).2.2
              rw [hnj] at q1
              have q2 := HT.out.2.2.1 j
              omega
            have HI := Lib.hid (And.intro hins hnl)
            have HN := Lib.hid (And.intro N1 N2)
            have HU := Lib.hid hru
            clear hins hnl N1 N2 hru hc hy hnj
            go_wp2_with fail
            obtain ⟨w1, hw2, hb3⟩ := drew_new wr
            have q4 := HU.out.later hb3
            have q5 := HN.out.1.later hb3
            have q6 := HN.out.2.later hb3
            refine wp_region_held_drew (S := (fun w' => w'.cell? ⟨b, off + k * 2 + 1, none⟩ = some (.slice (some ⟨b2, off2, none⟩) s.ns.length cs) ∧ w'.cell? ⟨b2, off2 + j, none⟩ = some (.string ⟨y.toArray⟩))) (by kernel_rfl) (by rw [hw2]; exact ⟨q5.2, q6.2⟩) (fun hHeld => ?_)
            rw [hw2] at hHeld ⊢
            have r1d := q4.box.cell 1
            simp only [List.getElem?_toArray, List.getElem?_cons_zero, List.getElem?_cons_succ] at r1d
            refine wpAnyH_take (i := 0) (oi := { dst := some 33, op := Op.fieldAddr 29 (Operand.tmp 3) 1, type := 0, pos := "ref.go:80", after := #[], guard := none }) (v := ?v1001) rfl (by kernel_rfl) (by kernel_rfl) (by kernel_rfl) (fun _ _ _ h => h) (Or.inl ⟨by rfl, ?hy1001⟩) (by assumption) ?rest1001
            case hy1001 => (intro w1 hSw; (try dsimp only at hSw); obtain ⟨h0, h1⟩ := hSw; go_simp; try with_reducible rfl)
            try simp only [Act.put, List.setIfInBounds_toArray, List.set_cons_zero, List.set_cons_succ]
            refine wpAnyH_take (i := 2) (oi := { dst := some 35, op := Op.move (Operand.tmp 0), type := 82, pos := "ref.go:80", after := #[], guard := none }) (v := ?v1002) rfl (by kernel_rfl) (by kernel_rfl) (by kernel_rfl) (fun _ _ _ h => h) (Or.inl ⟨by rfl, ?hy1002⟩) (by assumption) ?rest1002
            case hy1002 => (intro w1 hSw; (try dsimp only at hSw); obtain ⟨h0, h1⟩ := hSw; go_simp; try with_reducible rfl)
            try simp only [Act.put, List.setIfInBounds_toArray, List.set_cons_zero, List.set_cons_succ]
            refine wpAnyH_take (i := 3) (oi := { dst := some 36, op := Op.move (Operand.tmp 4), type := 3, pos := "ref.go:80", after := #[], guard := none }) (v := ?v1003) rfl (by kernel_rfl) (by kernel_rfl) (by kernel_rfl) (fun _ _ _ h => h) (Or.inl ⟨by rfl, ?hy1003⟩) (by assumption) ?rest1003
            case hy1003 => (intro w1 hSw; (try dsimp only at hSw); obtain ⟨h0, h1⟩ := hSw; go_simp; try with_reducible rfl)
            try simp only [Act.put, List.setIfInBounds_toArray, List.set_cons_zero, List.set_cons_succ]
            refine wpAnyH_take (i := 4) (oi := { dst := some 37, op := Op.indexAddr 82 (Operand.tmp 35) (Operand.tmp 36), type := 0, pos := "ref.go:80", after := #[{ on := 2, ground := Ground.data }, { on := 3, ground := Ground.data }], guard := none }) (v := ?v1004) rfl (by kernel_rfl) (by kernel_rfl) (by kernel_rfl) (fun _ _ _ h => h) (Or.inl ⟨by rfl, ?hy1004⟩) (by assumption) ?rest1004
            case hy1004 => (intro w1 hSw; (try dsimp only at hSw); obtain ⟨h0, h1⟩ := hSw; go_simp; try with_reducible rfl)
            try simp only [Act.put, List.setIfInBounds_toArray, List.set_cons_zero, List.set_cons_succ]
            refine wpAnyH_take (i := 5) (oi := { dst := some 38, op := Op.fieldAddr 29 (Operand.tmp 37) 1, type := 0, pos := "ref.go:80", after := #[{ on := 4, ground := Ground.data }], guard := none }) (v := ?v1005) rfl (by kernel_rfl) (by kernel_rfl) (by kernel_rfl) (fun _ _ _ h => h) (Or.inl ⟨by rfl, ?hy1005⟩) (by assumption) ?rest1005
            case hy1005 => (intro w1 hSw; (try dsimp only at hSw); obtain ⟨h0, h1⟩ := hSw; go_simp; try with_reducible rfl)
            try simp only [Act.put, List.setIfInBounds_toArray, List.set_cons_zero, List.set_cons_succ]
            refine wpAnyH_take (i := 6) (oi := { dst := some 39, op := Op.load 27 (Operand.tmp 38), type := 27, pos := "ref.go:80", after := #[{ on := 5, ground := Ground.data }], guard := none }) (v := ?v1006) rfl (by kernel_rfl) (by kernel_rfl) (by kernel_rfl) (fun _ _ _ h => h) (Or.inl ⟨by rfl, ?hy1006⟩) (by assumption) ?rest1006
            case hy1006 => (intro w1 hSw; (try dsimp only at hSw); obtain ⟨h0, h1⟩ := hSw; go_simp; try with_reducible rfl)
            try simp only [Act.put, List.setIfInBounds_toArray, List.set_cons_zero, List.set_cons_succ]
            refine wpAnyH_take (i := 7) (oi := { dst := some 40, op := Op.move (Operand.tmp 5), type := 3, pos := "ref.go:80", after := #[], guard := none }) (v := ?v1007) rfl (by kernel_rfl) (by kernel_rfl) (by kernel_rfl) (fun _ _ _ h => h) (Or.inl ⟨by rfl, ?hy1007⟩) (by assumption) ?rest1007
            case hy1007 => (intro w1 hSw; (try dsimp only at hSw); obtain ⟨h0, h1⟩ := hSw; go_simp; try with_reducible rfl)
            try simp only [Act.put, List.setIfInBounds_toArray, List.set_cons_zero, List.set_cons_succ]
            refine wpAnyH_take (i := 8) (oi := { dst := some 41, op := Op.indexAddr 27 (Operand.tmp 39) (Operand.tmp 40), type := 0, pos := "ref.go:80", after := #[{ on := 6, ground := Ground.data }, { on := 7, ground := Ground.data }], guard := none }) (v := ?v1008) rfl (by kernel_rfl) (by kernel_rfl) (by kernel_rfl) (fun _ _ _ h => h) (Or.inl ⟨by rfl, ?hy1008⟩) (by assumption) ?rest1008
            case hy1008 => (intro w1 hSw; (try dsimp only at hSw); obtain ⟨h0, h1⟩ := hSw; go_simp; try with_reducible rfl)
            try simp only [Act.put, List.setIfInBounds_toArray, List.set_cons_zero, List.set_cons_succ]
            refine wpAnyH_take (i := 9) (oi := { dst := some 42, op := Op.load 9 (Operand.tmp 41), type := 9, pos := "ref.go:80", after := #[{ on := 8, ground := Ground.data }], guard := none }) (v := ?v1009) rfl (by kernel_rfl) (by kernel_rfl) (by kernel_rfl) (fun _ _ _ h => h) (Or.inl ⟨by rfl, ?hy1009⟩) (by assumption) ?rest1009
            case hy1009 => (intro w1 hSw; (try dsimp only at hSw); obtain ⟨h0, h1⟩ := hSw; go_simp; try with_reducible rfl)
            try simp only [Act.put, List.setIfInBounds_toArray, List.set_cons_zero, List.set_cons_succ]
            refine wpAnyH_ready (rs := [1]) (by kernel_rfl) (by simp) ?_
            refine AllReadyH.cons (o := { dst := some 34, op := Op.load 27 (Operand.tmp 33), type := 27, pos := "ref.go:80", after := #[{ on := 0, ground := Ground.data }], guard := none }) rfl (fun K hK => ?_) AllReadyH.nil
            go_simp
            refine hK.out _ _ (⟨q5.2, q6.2⟩) (fun hHeld => ?_)
            clear hK K
            try simp only [Act.put, List.setIfInBounds_toArray, List.set_cons_zero, List.set_cons_succ]
            refine wpAnyH_ready (rs := [10]) (by kernel_rfl) (by simp) ?_
            refine AllReadyH.cons (o := { dst := some 43, op := Op.call { callee := Callee.value (Operand.func 54), args := #[Operand.tmp 34, Operand.tmp 42], argTypes := #[27, 9] }, type := 27, pos := "ref.go:80", after := #[{ on := 1, ground := Ground.data }, { on := 9, ground := Ground.data }], guard := none }) rfl (fun K hK => ?_) AllReadyH.nil
            go_simp
            refine (with_any (l := nj) q4.ts HI.out.2).mono ?_
            rintro e w7 ⟨ax, cx, rfl, tx, hb8⟩
            have q9 := q4.later hb8
            have q10 := q5.later hb8
            have q11 := q6.later hb8
            have r1 := q9.box.cell 1
            have g1 := q9.box.frozen 1
            simp only [List.getElem?_toArray, List.getElem?_cons_zero, List.getElem?_cons_succ] at r1
            refine hK.out _ _ (⟨q10.2, q11.2⟩) (fun hHeld => ?_)
            clear hK K
            try simp only [Act.put, List.setIfInBounds_toArray, List.set_cons_zero, List.set_cons_succ]
            refine wpAnyH_take (i := 11) (oi := { dst := some 44, op := Op.fieldAddr 29 (Operand.tmp 3) 1, type := 0, pos := "ref.go:80", after := #[{ on := 0, ground := Ground.phase }, { on := 1, ground := Ground.phase }, { on := 2, ground := Ground.phase }, { on := 3, ground := Ground.phase }, { on := 4, ground := Ground.phase }, { on := 5, ground := Ground.phase }, { on := 6, ground := Ground.phase }, { on := 7, ground := Ground.phase }, { on := 8, ground := Ground.phase }, { on := 9, ground := Ground.phase }, { on := 10, ground := Ground.phase }], guard := none }) (v := ?v1010) rfl (by kernel_rfl) (by kernel_rfl) (by kernel_rfl) (fun _ _ _ h => h) (Or.inl ⟨by rfl, ?hy1010⟩) (by assumption) ?rest1010
            case hy1010 => (intro w1 hSw; (try dsimp only at hSw); obtain ⟨h0, h1⟩ := hSw; go_simp; try with_reducible rfl)
            try simp only [Act.put, List.setIfInBounds_toArray, List.set_cons_zero, List.set_cons_succ]
            refine wpAnyH_ready (rs := [12]) (by kernel_rfl) (by simp) ?_
            refine AllReadyH.cons (o := { dst := none, op := Op.store 27 (Operand.tmp 44) (Operand.tmp 43), type := 0, pos := "ref.go:80", after := #[{ on := 11, ground := Ground.data }, { on := 10, ground := Ground.data }, { on := 10, ground := Ground.chain }, { on := 0, ground := Ground.phase }, { on := 1, ground := Ground.phase }, { on := 2, ground := Ground.phase }, { on := 3, ground := Ground.phase }, { on := 4, ground := Ground.phase }, { on := 5, ground := Ground.phase }, { on := 6, ground := Ground.phase }, { on := 7, ground := Ground.phase }, { on := 8, ground := Ground.phase }, { on := 9, ground := Ground.phase }, { on := 10, ground := Ground.phase }], guard := none }) rfl (fun K hK => ?_) AllReadyH.nil
            go_simp
            refine hK.out _ _ (⟨cell_far (R := R + 1) q10.2 (by omega), cell_far (R := R + 1) q11.2 (by omega)⟩) (fun hHeld => ?_)
            clear hK K
            refine wpAnyH_done (by kernel_rfl) ?_ _
            go_wp2_with fail
            go_roundw
            case rel => exact ⟨j + 1, ins nj y, _, _, by omega, by go_num, HI.out.1, Ru.put q9 (by have := HR.out; omega) tx⟩
            case measure => simp [RowKit.intOf]; omega
          · have j1 : ¬ (j : Int) < (s.ns.length : Int) := by omega
            have HU := Lib.hid hru
            have HJ := Lib.hid (show insL ((ss.take (k + 1)).flatMap (·.ns)) = nj by rw [HT.out.2.1, ← hnj, List.take_of_length_le (show s.ns.length ≤ j by omega)])
            clear hru hnj
            go_wp2_with fail
            go_roundw
            case rel => exact ⟨k + 1, _, nj, _, _, by omega, by go_num, by rw [HT.out.1]; rfl, HJ.out, HU.out⟩
            case measure => simp [RowKit.intOf]; omega
      · simp only [Bool.false_or, Bool.true_or] at HW3 HRu
        go_wp2_with fail
        rw [HW3.out]
        go_loopw [5] (fun i wr => ∃ (j : Nat) (ns' : List (List UInt8)) (a'' : Option Addr) (c'' : Nat), j ≤ s.ns.length ∧ i = .int .i64 j ∧ insL ((ss.take k).flatMap (·.ns) ++ s.ns.take j) = ns' ∧ Ru w R true ns' a'' c'' wr) (fun i _ => s.ns.length - (RowKit.intOf i).toNat)
        case atStart => exact ⟨0, ns, _, _, Nat.zero_le _, rfl, by rw [List.take_zero, List.append_nil]; exact HT.out.2.2.2.2.2, HRu.out⟩
        case round =>
          obtain ⟨j, nj, aj, cj, hj, rfl, hnj, hru⟩ := hrel
          have d2 : wr.cell? ⟨b, off + k * 2 + 1, none⟩ = some (.slice av s.ns.length cs) := (hru.bel.cell (p := ⟨b, _, none⟩) (by show b < w.heap.size; have := HR.out; omega)).trans HT.out.2.2.2.1
          by_cases hjl : j < s.ns.length
          · obtain ⟨y, hy⟩ : ∃ y, s.ns[j]? = some y := ⟨_, List.getElem?_eq_getElem hjl⟩
            obtain ⟨a1', c1', e1', _, _, h3⟩ := HT.out.2.2.2.2.1.out
            injection e1' with q1 _ q3
            subst q1; subst q3
            obtain ⟨b2, off2, rfl, hbl2, hc⟩ := h3 j hjl
            clear h3
            rw [(List.getElem?_eq_some_iff.1 hy).2] at hc
            have hb2R : b2 < R := by have := HR.out; omega
            have N1 : CellAt wr b (off + k * 2 + 1) (.slice (some ⟨b2, off2, none⟩) s.ns.length cs) := ⟨Nat.lt_of_lt_of_le (by have := HR.out; omega) hru.bel.size, d2⟩
            have N2 : CellAt wr b2 (off2 + j) (.string ⟨y.toArray⟩) := ⟨Nat.lt_of_lt_of_le hbl2 hru.bel.size, (hru.bel.cell (p := ⟨b2, _, none⟩) hbl2).trans hc⟩
            have j0 : (0 : Int) ≤ (j : Int) := by omega
            have j1 : (j : Int) < (s.ns.length : Int) := by omega
            have hins : insL ((ss.take k).flatMap (·.ns) ++ s.ns.take (j + 1)) = ins nj y := by
              rw [List.take_add_one, hy, ← hnj, ← List.append_assoc]; exact insL_snoc _ _
            have hnl : (nj.length + 1) * 16 ≤ 140737488355328 := by
              have q1 := (insL_facts ((ss.take k).flatMap (·.ns) ++ s.ns.take j)).2.2
              rw [hnj] at q1
              have q2 := HT.out.2.2.1 j
              omega
            have HI := Lib.hid (And.intro hins hnl)
            have HN := Lib.hid (And.intro N1 N2)
            have HU := Lib.hid hru
            clear hins hnl N1 N2 hru hc hy hnj
            go_wp2_with fail
            obtain ⟨w12, hw13, hb14⟩ := drew_new wr
            have q15 := HU.out.later hb14
            have q16 := HN.out.1.later hb14
            have q17 := HN.out.2.later hb14
            refine wp_region_held_drew (S := (fun w' => w'.cell? ⟨b, off + k * 2 + 1, none⟩ = some (.slice (some ⟨b2, off2, none⟩) s.ns.length cs) ∧ w'.cell? ⟨b2, off2 + j, none⟩ = some (.string ⟨y.toArray⟩))) (by kernel_rfl) (by rw [hw13]; exact ⟨q16.2, q17.2⟩) (fun hHeld => ?_)
            rw [hw13] at hHeld ⊢
            have r1d := q15.box.cell 1
            simp only [List.getElem?_toArray, List.getElem?_cons_zero, List.getElem?_cons_succ] at r1d
            refine wpAnyH_take (i := 0) (oi := { dst := some 33, op := Op.fieldAddr 29 (Operand.tmp 3) 1, type := 0, pos := "ref.go:80", after := #[], guard := none }) (v := ?v2001) rfl (by kernel_rfl) (by kernel_rfl) (by kernel_rfl) (fun _ _ _ h => h) (Or.inl ⟨by rfl, ?hy2001⟩) (by assumption) ?rest2001
            case hy2001 => (intro w1 hSw; (try dsimp only at hSw); obtain ⟨h0, h1⟩ := hSw; go_simp; try with_reducible rfl)
            try simp only [Act.put, List.setIfInBounds_toArray, List.set_cons_zero, List.set_cons_succ]
            refine wpAnyH_take (i := 2) (oi := { dst := some 35, op := Op.move (Operand.tmp 0), type := 82, pos := "ref.go:80", after := #[], guard := none }) (v := ?v2002) rfl (by kernel_rfl) (by kernel_rfl) (by kernel_rfl) (fun _ _ _ h => h) (Or.inl ⟨by rfl, ?hy2002⟩) (by assumption) ?rest2002
            case hy2002 => (intro w1 hSw; (try dsimp only at hSw); obtain ⟨h0, h1⟩ := hSw; go_simp; try with_reducible rfl)
            try simp only [Act.put, List.setIfInBounds_toArray, List.set_cons_zero, List.set_cons_succ]
            refine wpAnyH_take (i := 3) (oi := { dst := some 36, op := Op.move (Operand.tmp 4), type := 3, pos := "ref.go:80", after := #[], guard := none }) (v := ?v2003) rfl (by kernel_rfl) (by kernel_rfl) (by kernel_rfl) (fun _ _ _ h => h) (Or.inl ⟨by rfl, ?hy2003⟩) (by assumption) ?rest2003
            case hy2003 => (intro w1 hSw; (try dsimp only at hSw); obtain ⟨h0, h1⟩ := hSw; go_simp; try with_reducible rfl)
            try simp only [Act.put, List.setIfInBounds_toArray, List.set_cons_zero, List.set_cons_succ]
            refine wpAnyH_take (i := 4) (oi := { dst := some 37, op := Op.indexAddr 82 (Operand.tmp 35) (Operand.tmp 36), type := 0, pos := "ref.go:80", after := #[{ on := 2, ground := Ground.data }, { on := 3, ground := Ground.data }], guard := none }) (v := ?v2004) rfl (by kernel_rfl) (by kernel_rfl) (by kernel_rfl) (fun _ _ _ h => h) (Or.inl ⟨by rfl, ?hy2004⟩) (by assumption) ?rest2004
            case hy2004 => (intro w1 hSw; (try dsimp only at hSw); obtain ⟨h0, h1⟩ := hSw; go_simp; try with_reducible rfl)
            try simp only [Act.put, List.setIfInBounds_toArray, List.set_cons_zero, List.set_cons_succ]
            refine wpAnyH_take (i := 5) (oi := { dst := some 38, op := Op.fieldAddr 29 (Operand.tmp 37) 1, type := 0, pos := "ref.go:80", after := #[{ on := 4, ground := Ground.data }], guard := none }) (v := ?v2005) rfl (by kernel_rfl) (by kernel_rfl) (by kernel_rfl) (fun _ _ _ h => h) (Or.inl ⟨by rfl, ?hy2005⟩) (by assumption) ?rest2005
            case hy2005 => (intro w1 hSw; (try dsimp only at hSw); obtain ⟨h0, h1⟩ := hSw; go_simp; try with_reducible rfl)
            try simp only [Act.put, List.setIfInBounds_toArray, List.set_cons_zero, List.set_cons_succ]
            refine wpAnyH_take (i := 6) (oi := { dst := some 39, op := Op.load 27 (Operand.tmp 38), type := 27, pos := "ref.go:80", after := #[{ on := 5, ground := Ground.data }], guard := none }) (v := ?v2006) rfl (by kernel_rfl) (by kernel_rfl) (by kernel_rfl) (fun _ _ _ h => h) (Or.inl ⟨by rfl, ?hy2006⟩) (by assumption) ?rest2006
            case hy2006 => (intro w1 hSw; (try dsimp only at hSw); obtain ⟨h0, h1⟩ := hSw; go_simp; try with_reducible rfl)
            try simp only [Act.put, List.setIfInBounds_toArray, List.set_cons_zero, List.set_cons_succ]
            refine wpAnyH_take (i := 7) (oi := { dst := some 40, op := Op.move (Operand.tmp 5), type := 3, pos := "ref.go:80", after := #[], guard := none }) (v := ?v2007) rfl (by kernel_rfl) (by kernel_rfl) (by kernel_rfl) (fun _ _ _ h => h) (Or.inl ⟨by rfl, ?hy2007⟩) (by assumption) ?rest2007
            case hy2007 => (intro w1 hSw; (try dsimp only at hSw); obtain ⟨h0, h1⟩ := hSw; go_simp; try with_reducible rfl)
            try simp only [Act.put, List.setIfInBounds_toArray, List.set_cons_zero, List.set_cons_succ]
            refine wpAnyH_take (i := 8) (oi := { dst := some 41, op := Op.indexAddr 27 (Operand.tmp 39) (Operand.tmp 40), type := 0, pos := "ref.go:80", after := #[{ on := 6, ground := Ground.data }, { on := 7, ground := Ground.data }], guard := none }) (v := ?v2008) rfl (by kernel_rfl) (by kernel_rfl) (by kernel_rfl) (fun _ _ _ h => h) (Or.inl ⟨by rfl, ?hy2008⟩) (by assumption) ?rest2008
            case hy2008 => (intro w1 hSw; (try dsimp only at hSw); obtain ⟨h0, h1⟩ := hSw; go_simp; try with_reducible rfl)
            try simp only [Act.put, List.setIfInBounds_toArray, List.set_cons_zero, List.set_cons_succ]
            refine wpAnyH_take (i := 9) (oi := { dst := some 42, op := Op.load 9 (Operand.tmp 41), type := 9, pos := "ref.go:80", after := #[{ on := 8, ground := Ground.data }], guard := none }) (v := ?v2009) rfl (by kernel_rfl) (by kernel_rfl) (by kernel_rfl) (fun _ _ _ h => h) (Or.inl ⟨by rfl, ?hy2009⟩) (by assumption) ?rest2009
            case hy2009 => (intro w1 hSw; (try dsimp only at hSw); obtain ⟨h0, h1⟩ := hSw; go_simp; try with_reducible rfl)
            try simp only [Act.put, List.setIfInBounds_toArray, List.set_cons_zero, List.set_cons_succ]
            refine wpAnyH_ready (rs := [1]) (by kernel_rfl) (by simp) ?_
            refine AllReadyH.cons (o := { dst := some 34, op := Op.load 27 (Operand.tmp 33), type := 27, pos := "ref.go:80", after := #[{ on := 0, ground := Ground.data }], guard := none }) rfl (fun K hK => ?_) AllReadyH.nil
            go_simp
            refine hK.out _ _ (⟨q16.2, q17.2⟩) (fun hHeld => ?_)
            clear hK K
            try simp only [Act.put, List.setIfInBounds_toArray, List.set_cons_zero, List.set_cons_succ]
            refine wpAnyH_ready (rs := [10]) (by kernel_rfl) (by simp) ?_
            refine AllReadyH.cons (o := { dst := some 43, op := Op.call { callee := Callee.value (Operand.func 54), args := #[Operand.tmp 34, Operand.tmp 42], argTypes := #[27, 9] }, type := 27, pos := "ref.go:80", after := #[{ on := 1, ground := Ground.data }, { on := 9, ground := Ground.data }], guard := none }) rfl (fun K hK => ?_) AllReadyH.nil
            go_simp
            refine (with_any (l := nj) q15.ts HI.out.2).mono ?_
            rintro e w18 ⟨ax, cx, rfl, tx, hb19⟩
            have q20 := q15.later hb19
            have q21 := q16.later hb19
            have q22 := q17.later hb19
            have r1 := q20.box.cell 1
            have g1 := q20.box.frozen 1
            simp only [List.getElem?_toArray, List.getElem?_cons_zero, List.getElem?_cons_succ] at r1
            refine hK.out _ _ (⟨q21.2, q22.2⟩) (fun hHeld => ?_)
            clear hK K
            try simp only [Act.put, List.setIfInBounds_toArray, List.set_cons_zero, List.set_cons_succ]
            refine wpAnyH_take (i := 11) (oi := { dst := some 44, op := Op.fieldAddr 29 (Operand.tmp 3) 1, type := 0, pos := "ref.go:80", after := #[{ on := 0, ground := Ground.phase }, { on := 1, ground := Ground.phase }, { on := 2, ground := Ground.phase }, { on := 3, ground := Ground.phase }, { on := 4, ground := Ground.phase }, { on := 5, ground := Ground.phase }, { on := 6, ground := Ground.phase }, { on := 7, ground := Ground.phase }, { on := 8, ground := Ground.phase }, { on := 9, ground := Ground.phase }, { on := 10, ground := Ground.phase }], guard := none }) (v := ?v2010) rfl (by kernel_rfl) (by kernel_rfl) (by kernel_rfl) (fun _ _ _ h => h) (Or.inl ⟨by rfl, ?hy2010⟩) (by assumption) ?rest2010
            case hy2010 => (intro w1 hSw; (try dsimp only at hSw); obtain ⟨h0, h1⟩ := hSw; go_simp; try with_reducible rfl)
            try simp only [Act.put, List.setIfInBounds_toArray, List.set_cons_zero, List.set_cons_succ]
            refine wpAnyH_ready (rs := [12]) (by kernel_rfl) (by simp) ?_
            refine AllReadyH.cons (o := { dst := none, op := Op.store 27 (Operand.tmp 44) (Operand.tmp 43), type := 0, pos := "ref.go:80", after := #[{ on := 11, ground := Ground.data }, { on := 10, ground := Ground.data }, { on := 10, ground := Ground.chain }, { on := 0, ground := Ground.phase }, { on := 1, ground := Ground.phase }, { on := 2, ground := Ground.phase }, { on := 3, ground := Ground.phase }, { on := 4, ground := Ground.phase }, { on := 5, ground := Ground.phase }, { on := 6, ground := Ground.phase }, { on := 7, ground := Ground.phase }, { on := 8, ground := Ground.phase }, { on := 9, ground := Ground.phase }, { on := 10, ground := Ground.phase }], guard := none }) rfl (fun K hK => ?_) AllReadyH.nil
            go_simp
            refine hK.out _ _ (⟨cell_far (R := R + 1) q21.2 (by omega), cell_far (R := R + 1) q22.2 (by omega)⟩) (fun hHeld => ?_)
            clear hK K
            refine wpAnyH_done (by kernel_rfl) ?_ _
            go_wp2_with fail
            go_roundw
            case rel => exact ⟨j + 1, ins nj y, _, _, by omega, by go_num, HI.out.1, Ru.put q20 (by have := HR.out; omega) tx⟩
            case measure => simp [RowKit.intOf]; omega
          · have j1 : ¬ (j : Int) < (s.ns.length : Int) := by omega
            have HU := Lib.hid hru
            have HJ := Lib.hid (show insL ((ss.take (k + 1)).flatMap (·.ns)) = nj by rw [HT.out.2.1, ← hnj, List.take_of_length_le (show s.ns.length ≤ j by omega)])
            clear hru hnj
            go_wp2_with fail
            go_roundw
            case rel => exact ⟨k + 1, _, nj, _, _, by omega, by go_num, by rw [HT.out.1]; rfl, HJ.out, HU.out⟩
            case measure => simp [RowKit.intOf]; omega
    · have b1 : ¬ (k : Int) < (n : Int) := by omega
      have hE : ss.take k = ss := List.take_of_length_le (by have := HL.out; omega)
      rw [hE] at hta hns
      obtain rfl : sa = ta := HA.out.symm.trans hta
      obtain rfl : sl = ns := by rw [← hns, insL_srt, HE.out]
      have t0 := hr.box.cell 0
      have t1 := hr.box.cell 1
      have g0 := hr.res.cell 0
      have g1 := hr.res.cell 1
      have z0 := hr.res.frozen 0
      have z1 := hr.res.frozen 1
      simp only [List.getElem?_toArray, List.getElem?_cons_zero, List.getElem?_cons_succ] at t0 t1 g0 g1
      obtain ⟨x0, x1⟩ := two_cells (.bool sa) (.slice a' sl.length c') g0 g1
      have ht := hr.ts.set2 (.bool sa) (.slice a' sl.length c') g0 g1
      have hb := below_set2 hr.bel (R := R) (by have := HR.out; omega) (.bool sa) (.slice a' sl.length c')
      have HX := Lib.hid (And.intro x0 (And.intro x1 (And.intro ht hb)))
      clear x0 x1 ht hb hr hE hta hns r0 f0
      go_wp2_with fail
      obtain ⟨x0, x1, ht, hb⟩ := HX.out
      refine bodyPost_ret (v := .agg #[.bool sa, .slice a' sl.length c']) ?_ rfl ⟨_, _, rfl, ht, hb⟩
      simp [results, Tryz.results39, go_sem, x0, x1]
end Go.Proofs.YtkjfafnnnkjoeaaGreatDoor
