/- names: the reference's listed, with. -/
import Derived.Test.YtdcfdcjgheijcaaNmLater
import Derived.Test.YtdcfdcjgheijcaaNmRName
import Derived.Test.YtdcfdcjgheijcaaNmRefP
namespace Go.Proofs.Ytdcfdcjgheijcaa
open Go.RowKit Go.Lib

set_option maxRecDepth 100000 in
theorem listed_any {a : Option Addr} {c : Nat} {l : List (List UInt8)} {x : List UInt8} {w : World} {B : Bool} (h : TsAt w (.slice a l.length c) l) (hB : l.contains x = B) :
    Calls Try.prog 31 #[.slice a l.length c, .string ⟨x.toArray⟩] w fun e w' => e = .returned (.bool B) ∧ Below w.heap.size w w' := by
  obtain ⟨a', c', e', h1, h2, h3⟩ := h.out
  injection e' with e1 _ e3
  subst e1; subst e3
  have H3 := Lib.hid h3
  have HB := Lib.hid hB
  unfold maxLen at h2
  have hn63 : (l.length : Int) ≤ 9223372036854775807 := by omega
  clear h h3 hB
  go_enter Try.func31, Try.ntmps31
  go_wp2
  go_loopw [5] (fun i wr => ∃ j : Nat, j ≤ l.length ∧ i = .int .i64 j ∧ wr = w ∧ x ∉ l.take j) (fun i _ => l.length - (RowKit.intOf i).toNat)
  case atStart => exact ⟨0, Nat.zero_le _, rfl, rfl, by simp⟩
  case round =>
    obtain ⟨j, hj, rfl, rfl, hno⟩ := hrel
    have HNO := Lib.hid hno
    clear hno
    by_cases hlt : j < l.length
    · obtain ⟨y, hy⟩ : ∃ y, l[j]? = some y := ⟨_, List.getElem?_eq_getElem hlt⟩
      obtain ⟨b, off, rfl, hbl, hc⟩ := H3.out j hlt
      rw [(List.getElem?_eq_some_iff.1 hy).2] at hc
      have d1 : wr.cell? ⟨b, off + j, none⟩ = some (.string ⟨y.toArray⟩) := hc
      have b0 : (0 : Int) ≤ (j : Int) := by omega
      have b1 : (j : Int) < (l.length : Int) := by omega
      have ty : (⟨y.toArray⟩ : ByteArray).toList = y := by rw [ByteArray.toList_eq]
      have tx : (⟨x.toArray⟩ : ByteArray).toList = x := by rw [ByteArray.toList_eq]
      have HY := Lib.hid hy
      clear hc hy
      by_cases hxy : y = x
      · subst hxy
        have HT := Lib.hid (show B = true by rw [← HB.out]; exact List.contains_iff_mem.2 (List.mem_of_getElem? HY.out))
        go_wp2
        go_ret
        exact ⟨by rw [HT.out]; rfl, Below.refl _ _⟩
      · have hne : (y == x) = false := by simpa using hxy
        have HXY := Lib.hid (show x ∉ l.take (j + 1) by
          rw [List.take_add_one, HY.out]
          intro hm
          rcases List.mem_append.1 hm with hm | hm
          · exact HNO.out hm
          · simp at hm; exact hxy hm.symm)
        go_wp2_with fail
        go_roundw
        case rel => exact ⟨j + 1, by omega, by go_num, trivial, HXY.out⟩
        case measure => simp [RowKit.intOf]; omega
    · have HT := Lib.hid (show B = false by
        rw [← HB.out, Bool.eq_false_iff]
        intro hm
        have hE : l.take j = l := List.take_of_length_le (by omega)
        rw [List.contains_iff_mem, ← hE] at hm
        exact HNO.out hm)
      have b1 : ¬ (j : Int) < (l.length : Int) := by omega
      go_wp2
      go_ret
      exact ⟨by rw [HT.out]; rfl, Below.refl _ _⟩
theorem bl_of {x y : List UInt8} (h : y < x) : Op.bytesLess (⟨y.toArray⟩ : ByteArray).toList (⟨x.toArray⟩ : ByteArray).toList = true := by
  rw [ByteArray.toList_eq, ByteArray.toList_eq]
  show Op.bytesLess y x = true
  rw [bytesLess_eq, decide_eq_true h]
theorem bl_not {x y : List UInt8} (h : ¬ y < x) : Op.bytesLess (⟨y.toArray⟩ : ByteArray).toList (⟨x.toArray⟩ : ByteArray).toList = false := by
  rw [ByteArray.toList_eq, ByteArray.toList_eq]
  show Op.bytesLess y x = false
  rw [bytesLess_eq, decide_eq_false h]
theorem rows_take {w : World} {a : Option Addr} {c : Nat} {l : List (List UInt8)} (h : TsAt w (.slice a l.length c) l) (m : Nat) (hm : m ≤ l.length) :
    (tsV (l.take m)).length = m * 1 ∧ (a = none → m = 0) ∧ ∀ j u, (tsV (l.take m))[j]? = some u → ∃ B, a = some B ∧ w.cell? (B.add j) = some u := by
  obtain ⟨n1, n2, n3⟩ := ts_news h
  refine ⟨by rw [tsV_len, List.length_take]; omega, fun e => by have := n2 e; omega, fun j u hj => n3 j u ?_⟩
  have hjm : j < m := by have := (List.getElem?_eq_some_iff.1 hj).1; rw [tsV_len, List.length_take] at this; omega
  rw [← hj, tsV, tsV, List.getElem?_map, List.getElem?_map, List.getElem?_take, if_pos hjm]
theorem rows_sub {w : World} {b off c : Nat} {l : List (List UInt8)} (h : TsAt w (.slice (some ⟨b, off, none⟩) l.length c) l) (k m : Nat) (hk : k + m ≤ l.length) :
    (tsV ((l.drop k).take m)).length = m * 1 ∧ ((some ⟨b, off + k, none⟩ : Option Addr) = none → m = 0) ∧ ∀ j u, (tsV ((l.drop k).take m))[j]? = some u → ∃ B, (some ⟨b, off + k, none⟩ : Option Addr) = some B ∧ w.cell? (B.add j) = some u := by
  obtain ⟨n1, _, n3⟩ := ts_news h
  refine ⟨by rw [tsV_len, List.length_take, List.length_drop]; omega, fun e => (by cases e), fun j u hj => ⟨_, rfl, ?_⟩⟩
  have hjm : j < m := by have := (List.getElem?_eq_some_iff.1 hj).1; rw [tsV_len, List.length_take] at this; omega
  have e : (tsV l)[k + j]? = some u := by
    rw [← hj, tsV, tsV, List.getElem?_map, List.getElem?_map, List.getElem?_take, if_pos hjm, List.getElem?_drop]
  obtain ⟨B, hB, hc⟩ := n3 (k + j) u e
  obtain rfl := Option.some.inj hB
  have q1 : (⟨b, off + k, none⟩ : Addr).add j = ⟨b, off + k + j, none⟩ := by unfold Addr.add; split <;> simp_all
  have q2 : (⟨b, off, none⟩ : Addr).add (k + j) = ⟨b, off + (k + j), none⟩ := by unfold Addr.add; split <;> simp_all
  rw [q1, Nat.add_assoc, ← q2]; exact hc

set_option maxRecDepth 100000 in
set_option maxHeartbeats 4000000 in
theorem with_any {a : Option Addr} {c : Nat} {l : List (List UInt8)} {x : List UInt8} {w : World} (h : TsAt w (.slice a l.length c) l) (hz : (l.length + 1) * 16 ≤ 140737488355328) :
    Calls Try.prog 29 #[.slice a l.length c, .string ⟨x.toArray⟩] w fun e w' => ∃ a' c', e = .returned (.slice a' (ins l x).length c') ∧ TsAt w' (.slice a' (ins l x).length c') (ins l x) ∧ Below w.heap.size w w' := by
  have H := Lib.hid h
  obtain ⟨B, hB⟩ : ∃ B, l.contains x = B := ⟨_, rfl⟩
  have hcc : l.length ≤ c ∧ c ≤ 9223372036854775807 := by
    obtain ⟨a', c', e', h1, h2, _⟩ := h.out
    injection e' with _ _ e3
    subst e3; unfold maxLen at h2; omega
  have HB := Lib.hid hB
  cases B with
  | true =>
    clear h
    have hi : ins l x = l := by unfold ins; rw [if_pos hB]
    rw [hi]
    clear hB hi
    go_enter Try.func29, Try.ntmps29
    go_wp2_with fail
    refine (listed_any H.out HB.out).mono ?_
    rintro e w1 ⟨rfl, hb1⟩
    go_wp2_with fail
    go_ret
    exact ⟨_, _, rfl, H.out.later hb1, hb1⟩
  | false =>
    obtain ⟨K, hK⟩ : ∃ K, ahead x l = K := ⟨_, rfl⟩
    have hKl : K ≤ l.length := by rw [← hK]; exact ahead_le x l
    have hins : ins l x = l.take K ++ [x] ++ l.drop K := by unfold ins; rw [if_neg (by rw [hB]; simp), hK]
    have HI := Lib.hid hins
    have HK := Lib.hid hK
    obtain ⟨i0, hi, hz0, hz1, hz2⟩ := info_parts Try.infoStr
    have hn63 : (l.length : Int) ≤ 9223372036854775807 := by omega
    have hc63 : (c : Int) ≤ 9223372036854775807 := by omega
    clear h hB hK hins
    go_enter Try.func29, Try.ntmps29
    go_wp2_with fail
    refine (listed_any H.out HB.out).mono ?_
    rintro e w1 ⟨rfl, hb1⟩
    have H1 := Lib.hid (H.out.later hb1)
    have hs1 := hb1.size
    have HB1 := Lib.hid hb1
    clear hb1
    go_wp2_with fail
    go_loopw [6] (fun i wr => ∃ j : Nat, j ≤ K ∧ i = .int .i64 j ∧ wr = w1) (fun i _ => l.length - (RowKit.intOf i).toNat)
    case atStart => exact ⟨0, Nat.zero_le _, rfl, rfl⟩
    case round =>
      obtain ⟨j, hj, rfl, rfl⟩ := hrel
      by_cases hjK : j < K
      · have hlt : j < l.length := by omega
        obtain ⟨a', c', e', _, _, h3⟩ := H1.out.out
        injection e' with e1 _ e3
        subst e1; subst e3
        obtain ⟨b, off, rfl, hbl, hc⟩ := h3 j hlt
        have hyx : l[j] < x := ahead_lt x l j hlt (by rw [HK.out]; exact hjK)
        obtain ⟨y, hy⟩ : ∃ y, l[j] = y := ⟨_, rfl⟩
        rw [hy] at hc hyx
        have d1 : wr.cell? ⟨b, off + j, none⟩ = some (.string ⟨y.toArray⟩) := hc
        have hbl' : Op.bytesLess y x = true := by rw [bytesLess_eq, decide_eq_true hyx]
        have ty : (⟨y.toArray⟩ : ByteArray).toList = y := by rw [ByteArray.toList_eq]
        have tx : (⟨x.toArray⟩ : ByteArray).toList = x := by rw [ByteArray.toList_eq]
        have b0 : (0 : Int) ≤ (j : Int) := by omega
        have b1 : (j : Int) < (l.length : Int) := by omega
        clear hc hy hyx h3
        go_wp2_with fail
        go_roundw
        case rel => exact ⟨j + 1, by omega, by go_num, trivial⟩
        case measure => simp [RowKit.intOf]; omega
      · obtain rfl : j = K := by omega
        have b0 : (0 : Int) ≤ (j : Int) := by omega
        have hjc : (j : Int) ≤ (c : Int) := by omega
        have hjl : (j : Int) ≤ (l.length : Int) := by omega
        by_cases hlt : j < l.length
        · obtain ⟨a', c', e', _, _, h3⟩ := H1.out.out
          injection e' with e1 _ e3
          subst e1; subst e3
          obtain ⟨b, off, rfl, hbl, hc⟩ := h3 j hlt
          have hyx : ¬ l[j] < x := by
            have := ahead_stop x l (by rw [HK.out]; exact hlt)
            simp only [HK.out] at this
            exact this
          obtain ⟨y, hy⟩ : ∃ y, l[j] = y := ⟨_, rfl⟩
          rw [hy] at hc hyx
          have d1 : wr.cell? ⟨b, off + j, none⟩ = some (.string ⟨y.toArray⟩) := hc
          have hbl' : Op.bytesLess y x = false := by rw [bytesLess_eq, decide_eq_false hyx]
          have ty : (⟨y.toArray⟩ : ByteArray).toList = y := by rw [ByteArray.toList_eq]
          have tx : (⟨x.toArray⟩ : ByteArray).toList = x := by rw [ByteArray.toList_eq]
          have b1 : (j : Int) < (l.length : Int) := by omega
          obtain ⟨n1, n2, n3⟩ := rows_take H1.out j (by omega)
          clear hc hy hyx h3
          go_wp2_with (at_builtin; go_must (first
            | (refine wpList_append_row _ rfl _ _ 24 rfl w.heap.size 9 i0 _ 1 16 Try.underlying24 hi hz0 hz1 hz2 rfl (by omega) _ _ _ rfl (World.ownsRow_nil _ _ _ _) _ j _ (tsV (l.take j)) rfl n1 n2 n3 (tsV_one _) (by unfold maxLen; omega) (by omega) (by omega) ?_; intro v2 w2 hown2 hgrow2
               rw [Nat.zero_add, List.nil_append] at hown2
               have hb2 : Below w.heap.size w w2 := HB1.out.grown hgrow2 hs1 (fun j hj => by cases hj)
               have hs2 := hb2.size
               have hnew := heap_alloc_new w2 (.cells #[.string ⟨x.toArray⟩] 9))
            | (refine wpList_append_own _ rfl _ _ 24 rfl w.heap.size 9 i0 _ 1 16 Try.underlying24 hi hz0 hz1 hz2 rfl (by omega) _ _ _ rfl (hown2.alloc _) ⟨w2.heap.size, 0, none⟩ 1 1 (tsV [x]) rfl rfl (World.news_of_block (cs := #[.string ⟨x.toArray⟩]) (t := 9) (fr := (0, 0)) hnew) (tsV_one _) (by unfold maxLen; omega) (by omega) (by simp; omega) ?_; intro v3 w3 hown3 hgrow3 _
               have hb3 : Below w.heap.size w w3 := (hb2.alloc hs2 _).grown hgrow3 (by simp; omega) (fun j hj => (hown2.lt j hj).1)
               have hs3 := hb3.size
               obtain ⟨m1, m2, m3⟩ := rows_sub (H.out.later hb3) j (l.length - j) (by omega))
            | (refine wpList_append_row _ rfl _ _ 24 rfl w.heap.size 9 i0 _ 1 16 Try.underlying24 hi hz0 hz1 hz2 rfl (by omega) _ _ _ rfl hown3 _ (l.length - j) _ (tsV ((l.drop j).take (l.length - j))) rfl m1 m2 m3 (tsV_one _) (by unfold maxLen; omega) (by omega) (by omega) ?_; intro v4 w4 hown4 hgrow4)))
          obtain ⟨a4, c4, rfl⟩ := owns_slice hown4
          have hb4 : Below w.heap.size w w4 := hb3.grown hgrow4 hs3 (fun j hj => (hown3.lt j hj).1)
          go_wp2_with fail
          go_ret
          have e1 : (l.drop j).take (l.length - j) = l.drop j := List.take_of_length_le (by rw [List.length_drop]; omega)
          have e2 : (ins l x).length = j + 1 + (l.length - j) := by rw [HI.out, List.length_append, List.length_append, List.length_take, List.length_drop, Nat.min_eq_left hKl]; rfl
          rw [e1, ← tsV_append, ← tsV_append, ← HI.out, ← e2] at hown4
          rw [← e2]
          exact ⟨_, _, rfl, RowV.own hown4, hb4⟩
        · have hje : j = l.length := by omega
          have b1 : ¬ (j : Int) < (l.length : Int) := by omega
          obtain ⟨n1, n2, n3⟩ := rows_take H1.out j (by omega)
          have HJE := Lib.hid hje
          clear hje hlt
          go_wp2_with (at_builtin; go_must (first
            | (refine wpList_append_row _ rfl _ _ 24 rfl w.heap.size 9 i0 _ 1 16 Try.underlying24 hi hz0 hz1 hz2 rfl (by omega) _ _ _ rfl (World.ownsRow_nil _ _ _ _) _ j _ (tsV (l.take j)) rfl n1 n2 n3 (tsV_one _) (by unfold maxLen; omega) (by omega) (by omega) ?_; intro v2 w2 hown2 hgrow2
               rw [Nat.zero_add, List.nil_append] at hown2
               have hb2 : Below w.heap.size w w2 := HB1.out.grown hgrow2 hs1 (fun j hj => by cases hj)
               have hs2 := hb2.size
               have hnew := heap_alloc_new w2 (.cells #[.string ⟨x.toArray⟩] 9))
            | (refine wpList_append_own _ rfl _ _ 24 rfl w.heap.size 9 i0 _ 1 16 Try.underlying24 hi hz0 hz1 hz2 rfl (by omega) _ _ _ rfl (hown2.alloc _) ⟨w2.heap.size, 0, none⟩ 1 1 (tsV [x]) rfl rfl (World.news_of_block (cs := #[.string ⟨x.toArray⟩]) (t := 9) (fr := (0, 0)) hnew) (tsV_one _) (by unfold maxLen; omega) (by omega) (by simp; omega) ?_; intro v3 w3 hown3 hgrow3 _
               have hb3 : Below w.heap.size w w3 := (hb2.alloc hs2 _).grown hgrow3 (by simp; omega) (fun j hj => (hown2.lt j hj).1)
               have hs3 := hb3.size
               have m1 : (tsV []).length = (l.length - j) * 1 := by have := HJE.out; simp [tsV]; omega)
            | (refine wpList_append_row _ rfl _ _ 24 rfl w.heap.size 9 i0 _ 1 16 Try.underlying24 hi hz0 hz1 hz2 rfl (by omega) _ _ _ rfl hown3 _ (l.length - j) _ (tsV []) rfl m1 (fun _ => by have := HJE.out; omega) (fun j u h => by simp [tsV] at h) (tsV_one _) (by unfold maxLen; omega) (by omega) (by omega) ?_; intro v4 w4 hown4 hgrow4)))
          all_goals
            obtain ⟨a4, c4, rfl⟩ := owns_slice hown4
            have hb4 : Below w.heap.size w w4 := hb3.grown hgrow4 hs3 (fun j hj => (hown3.lt j hj).1)
            go_wp2_with fail
            go_ret
            have e2 : (ins l x).length = j + 1 + (l.length - j) := by rw [HI.out, List.length_append, List.length_append, List.length_take, List.length_drop, Nat.min_eq_left hKl]; rfl
            have e1 : l.take j ++ [x] ++ [] = ins l x := by rw [HI.out, List.drop_of_length_le (by have := HJE.out; omega)]
            rw [← tsV_append, ← tsV_append, e1, ← e2] at hown4
            rw [← e2]
            exact ⟨_, _, rfl, RowV.own hown4, hb4⟩
end Go.Proofs.Ytdcfdcjgheijcaa
