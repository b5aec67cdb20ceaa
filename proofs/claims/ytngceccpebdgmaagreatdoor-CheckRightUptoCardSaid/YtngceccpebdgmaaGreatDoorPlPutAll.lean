/- putAll: the parts of a value, one behind the other: the walks. -/
import Derived.Test.YtngceccpebdgmaaGreatDoorPlParts
import Derived.Outline
import Derived.Laws.EntriesVeiled
namespace Go.Proofs.YtngceccpebdgmaaGreatDoor
open Go.RowKit Go.Shelf

set_option maxRecDepth 100000 in
set_option maxHeartbeats 1000000 in
theorem putAllRule_any (g cap : Nat) (xs : List PartV) (ts : List (List UInt8)) (s0 s1 : ByteArray) (w : World) (hlt : ts.length = xs.length) (hn : xs.length ≤ 64) (hp : PartsAt w g xs)
    (hput : ∀ (i : Nat) (x : PartV) (t : List UInt8), xs[i]? = some x → ts[i]? = some t → PutsAs (w.heap.size + 1) w.heap.size (w.alloc (.cells #[.string s0, .string s1] 42)) x t)
    (hsz : ts.flatten.length ≤ 140737488355328) :
    Calls Tryz.prog 113 #[.slice (some ⟨g, 0, none⟩) xs.length cap, .agg #[.string s0, .string s1]] w fun e w' => e = .returned (.string ⟨ts.flatten.toArray⟩) ∧ Below w.heap.size w w' := by
  have HS := Lib.hid hsz; clear hsz
  have HL := Lib.hid hlt; clear hlt
  have HP := Lib.hid hp; clear hp
  have HU := Lib.hid hput; clear hput
  obtain ⟨n, hxn⟩ : ∃ n, xs.length = n := ⟨_, rfl⟩
  have HN := Lib.hid hxn
  rw [hxn] at hn
  rw [hxn]
  clear hxn
  go_enter Tryz.func113, Tryz.ntmps113
  go_wp2_with fail
  go_loopw [10] (fun i wr => ∃ k : Nat, k ≤ n ∧ i = .int .i64 k ∧ Lib.IsBuilder 121 5 (w.heap.size + 1) (w.heap.size + 1) (Lib.byteCells (ts.take k).flatten) wr ∧ Below (w.heap.size + 1) (w.alloc (.cells #[.string s0, .string s1] 42)) wr ∧ w.heap.size + 1 < wr.heap.size) (fun i _ => n - (intOf i).toNat)
  case atStart => exact ⟨0, Nat.zero_le _, rfl, by have := Lib.fresh_isBuilder 121 5 (w.alloc (.cells #[.string s0, .string s1] 42)); rw [World.size_alloc] at this; exact this, (Below.refl _ _).alloc (by simp) _, by simp⟩
  case round =>
    obtain ⟨k, hk, rfl, hbld, hb, hsz⟩ := hrel
    by_cases hlt : k < n
    · obtain ⟨x, hx⟩ : ∃ x, xs[k]? = some x := ⟨_, List.getElem?_eq_getElem (by have := HN.out; omega)⟩
      obtain ⟨t, ht⟩ : ∃ t, ts[k]? = some t := ⟨_, List.getElem?_eq_getElem (by have := HL.out; have := HN.out; omega)⟩
      have hb0 : Below w.heap.size w wr := (((Below.refl _ _).alloc (Nat.le_refl _) _)).trans (hb.mono (by omega))
      obtain ⟨c0, c1, c2, c3⟩ := (HP.out.below hb0 HP.out.1).2 k x hx
      obtain ⟨hent, hcall⟩ := HU.out k x t hx ht
      have HT := Lib.hid (flatten_take_succ ht)
      have HTS := Lib.hid (show (ts.take k).flatten.length + t.length ≤ 140737488355328 by
        have h1 := flatten_take_succ ht
        have h2 := flatten_take_le ts (k + 1)
        rw [h1, List.length_append] at h2
        have := HS.out; omega)
      have HB := Lib.hid hb
      have HB0 := Lib.hid hb0
      have HBL := Lib.hid hbld
      clear hb hb0 hbld hx ht
      obtain ⟨xn, xk, pg, plb, tg, tlb⟩ := x
      simp only at c0 c1 c2 c3 hent
      have hent' : ∀ (args : Array Value) (w : World), (callFunc pg args).run Tryz.prog w = .ok (.enter pg args) w := hent
      clear hent
      have b0 : (0 : Int) ≤ (k : Int) := by omega
      have b1 : (k : Int) < (n : Int) := by omega
      go_wp2_with fail
      refine (hcall _ (HB.out.alloc (by omega) _)).mono ?_
      rintro e w2 ⟨rfl, hb2⟩
      have hs2 := hb2.size
      simp only [World.size_alloc] at hs2
      have HB2 := Lib.hid (isBuilder_below (isBuilder_below HBL.out ((Below.refl _ _).alloc (Nat.le_refl _) _)) hb2)
      have HB3 := Lib.hid ((HB.out.alloc (by omega) _).trans (hb2.mono (by simp; omega)))
      clear hb2
      go_wp2_with fail
      refine (writeString_any (w.heap.size + 1) (w.heap.size + 1) _ ⟨t.toArray⟩ _ HB2.out (by have := HTS.out; rw [Lib.byteCells_length]; show _ + t.length ≤ _; omega) (by omega)).mono ?_
      rintro e w3 ⟨rfl, hbld3, hb3⟩
      have hs3 := hb3.size
      rw [strCells_mk, ← Lib.byteCells_append, ← HT.out] at hbld3
      have HB4 := Lib.hid hbld3
      have HB5 := Lib.hid (HB3.out.trans hb3)
      clear hbld3 hb3
      go_wp2_with fail
      go_roundw
      case rel => exact ⟨k + 1, by omega, by go_num, Or.inr HB4.out, HB5.out, by omega⟩
      case measure => simp [intOf]; omega
    · obtain rfl : k = n := by omega
      have hTk : (ts.take k).flatten = ts.flatten := by rw [List.take_of_length_le (by have := HL.out; have := HN.out; omega)]
      have HBL := Lib.hid hbld
      have HB := Lib.hid hb
      have HT := Lib.hid hTk
      clear hbld hb hTk
      go_wp2_with fail
      refine (Tryz.Builder_String_any (w.heap.size + 1) (w.heap.size + 1) _ _ HBL.out (by omega)).mono ?_
      rintro e w2 ⟨rfl, hb2⟩
      go_wp2_with fail
      go_ret
      exact ⟨by rw [HT.out]; rfl, ((Below.refl _ _).alloc (Nat.le_refl _) _).trans ((HB.out.trans hb2).mono (by omega))⟩

set_option maxRecDepth 100000 in
set_option maxHeartbeats 1000000 in
theorem putAllAddr_any (g cap : Nat) (xs : List PartV) (ts : List (List UInt8)) (s0 : ByteArray) (n1 n2 : Int) (w : World) (hlt : ts.length = xs.length) (hn : xs.length ≤ 64) (hp : PartsAt w g xs)
    (hput : ∀ (i : Nat) (x : PartV) (t : List UInt8), xs[i]? = some x → ts[i]? = some t → PutsAs (w.heap.size + 1) w.heap.size (w.alloc (.cells #[.string s0, .int .u64 n1, .int .u64 n2] 44)) x t)
    (hsz : ts.flatten.length ≤ 140737488355328) :
    Calls Tryz.prog 120 #[.slice (some ⟨g, 0, none⟩) xs.length cap, .agg #[.string s0, .int .u64 n1, .int .u64 n2]] w fun e w' => e = .returned (.string ⟨ts.flatten.toArray⟩) ∧ Below w.heap.size w w' := by
  have HS := Lib.hid hsz; clear hsz
  have HL := Lib.hid hlt; clear hlt
  have HP := Lib.hid hp; clear hp
  have HU := Lib.hid hput; clear hput
  obtain ⟨n, hxn⟩ : ∃ n, xs.length = n := ⟨_, rfl⟩
  have HN := Lib.hid hxn
  rw [hxn] at hn
  rw [hxn]
  clear hxn
  go_enter Tryz.func120, Tryz.ntmps120
  go_wp2_with fail
  go_loopw [10] (fun i wr => ∃ k : Nat, k ≤ n ∧ i = .int .i64 k ∧ Lib.IsBuilder 121 5 (w.heap.size + 1) (w.heap.size + 1) (Lib.byteCells (ts.take k).flatten) wr ∧ Below (w.heap.size + 1) (w.alloc (.cells #[.string s0, .int .u64 n1, .int .u64 n2] 44)) wr ∧ w.heap.size + 1 < wr.heap.size) (fun i _ => n - (intOf i).toNat)
  case atStart => exact ⟨0, Nat.zero_le _, rfl, by have := Lib.fresh_isBuilder 121 5 (w.alloc (.cells #[.string s0, .int .u64 n1, .int .u64 n2] 44)); rw [World.size_alloc] at this; exact this, (Below.refl _ _).alloc (by simp) _, by simp⟩
  case round =>
    obtain ⟨k, hk, rfl, hbld, hb, hsz⟩ := hrel
    by_cases hlt : k < n
    · obtain ⟨x, hx⟩ : ∃ x, xs[k]? = some x := ⟨_, List.getElem?_eq_getElem (by have := HN.out; omega)⟩
      obtain ⟨t, ht⟩ : ∃ t, ts[k]? = some t := ⟨_, List.getElem?_eq_getElem (by have := HL.out; have := HN.out; omega)⟩
      have hb0 : Below w.heap.size w wr := (((Below.refl _ _).alloc (Nat.le_refl _) _)).trans (hb.mono (by omega))
      obtain ⟨c0, c1, c2, c3⟩ := (HP.out.below hb0 HP.out.1).2 k x hx
      obtain ⟨hent, hcall⟩ := HU.out k x t hx ht
      have HT := Lib.hid (flatten_take_succ ht)
      have HTS := Lib.hid (show (ts.take k).flatten.length + t.length ≤ 140737488355328 by
        have h1 := flatten_take_succ ht
        have h2 := flatten_take_le ts (k + 1)
        rw [h1, List.length_append] at h2
        have := HS.out; omega)
      have HB := Lib.hid hb
      have HB0 := Lib.hid hb0
      have HBL := Lib.hid hbld
      clear hb hb0 hbld hx ht
      obtain ⟨xn, xk, pg, plb, tg, tlb⟩ := x
      simp only at c0 c1 c2 c3 hent
      have hent' : ∀ (args : Array Value) (w : World), (callFunc pg args).run Tryz.prog w = .ok (.enter pg args) w := hent
      clear hent
      have b0 : (0 : Int) ≤ (k : Int) := by omega
      have b1 : (k : Int) < (n : Int) := by omega
      go_wp2_with fail
      refine (hcall _ (HB.out.alloc (by omega) _)).mono ?_
      rintro e w2 ⟨rfl, hb2⟩
      have hs2 := hb2.size
      simp only [World.size_alloc] at hs2
      have HB2 := Lib.hid (isBuilder_below (isBuilder_below HBL.out ((Below.refl _ _).alloc (Nat.le_refl _) _)) hb2)
      have HB3 := Lib.hid ((HB.out.alloc (by omega) _).trans (hb2.mono (by simp; omega)))
      clear hb2
      go_wp2_with fail
      refine (writeString_any (w.heap.size + 1) (w.heap.size + 1) _ ⟨t.toArray⟩ _ HB2.out (by have := HTS.out; rw [Lib.byteCells_length]; show _ + t.length ≤ _; omega) (by omega)).mono ?_
      rintro e w3 ⟨rfl, hbld3, hb3⟩
      have hs3 := hb3.size
      rw [strCells_mk, ← Lib.byteCells_append, ← HT.out] at hbld3
      have HB4 := Lib.hid hbld3
      have HB5 := Lib.hid (HB3.out.trans hb3)
      clear hbld3 hb3
      go_wp2_with fail
      go_roundw
      case rel => exact ⟨k + 1, by omega, by go_num, Or.inr HB4.out, HB5.out, by omega⟩
      case measure => simp [intOf]; omega
    · obtain rfl : k = n := by omega
      have hTk : (ts.take k).flatten = ts.flatten := by rw [List.take_of_length_le (by have := HL.out; have := HN.out; omega)]
      have HBL := Lib.hid hbld
      have HB := Lib.hid hb
      have HT := Lib.hid hTk
      clear hbld hb hTk
      go_wp2_with fail
      refine (Tryz.Builder_String_any (w.heap.size + 1) (w.heap.size + 1) _ _ HBL.out (by omega)).mono ?_
      rintro e w2 ⟨rfl, hb2⟩
      go_wp2_with fail
      go_ret
      exact ⟨by rw [HT.out]; rfl, ((Below.refl _ _).alloc (Nat.le_refl _) _).trans ((HB.out.trans hb2).mono (by omega))⟩

set_option maxRecDepth 100000 in
set_option maxHeartbeats 1000000 in
theorem putAllPayload_any (g cap : Nat) (xs : List PartV) (ts : List (List UInt8)) (s0 s2 s5 s7 : ByteArray) (n1 n4 : Int) (a3 a6 : Option Addr) (l3 l6 c3 c6 : Nat) (w : World) (hlt : ts.length = xs.length) (hn : xs.length ≤ 64) (hp : PartsAt w g xs)
    (hput : ∀ (i : Nat) (x : PartV) (t : List UInt8), xs[i]? = some x → ts[i]? = some t → PutsAs (w.heap.size + 1) w.heap.size (w.alloc (.cells #[.string s0, .int .u64 n1, .string s2, .slice a3 l3 c3, .int .u64 n4, .string s5, .slice a6 l6 c6, .string s7] 36)) x t)
    (hsz : ts.flatten.length ≤ 140737488355328) :
    Calls Tryz.prog 42 #[.slice (some ⟨g, 0, none⟩) xs.length cap, .agg #[.string s0, .int .u64 n1, .string s2, .slice a3 l3 c3, .int .u64 n4, .string s5, .slice a6 l6 c6, .string s7]] w fun e w' => e = .returned (.string ⟨ts.flatten.toArray⟩) ∧ Below w.heap.size w w' := by
  have HS := Lib.hid hsz; clear hsz
  have HL := Lib.hid hlt; clear hlt
  have HP := Lib.hid hp; clear hp
  have HU := Lib.hid hput; clear hput
  obtain ⟨n, hxn⟩ : ∃ n, xs.length = n := ⟨_, rfl⟩
  have HN := Lib.hid hxn
  rw [hxn] at hn
  rw [hxn]
  clear hxn
  go_enter Tryz.func42, Tryz.ntmps42
  go_wp2_with fail
  go_loopw [10] (fun i wr => ∃ k : Nat, k ≤ n ∧ i = .int .i64 k ∧ Lib.IsBuilder 121 5 (w.heap.size + 1) (w.heap.size + 1) (Lib.byteCells (ts.take k).flatten) wr ∧ Below (w.heap.size + 1) (w.alloc (.cells #[.string s0, .int .u64 n1, .string s2, .slice a3 l3 c3, .int .u64 n4, .string s5, .slice a6 l6 c6, .string s7] 36)) wr ∧ w.heap.size + 1 < wr.heap.size) (fun i _ => n - (intOf i).toNat)
  case atStart => exact ⟨0, Nat.zero_le _, rfl, by have := Lib.fresh_isBuilder 121 5 (w.alloc (.cells #[.string s0, .int .u64 n1, .string s2, .slice a3 l3 c3, .int .u64 n4, .string s5, .slice a6 l6 c6, .string s7] 36)); rw [World.size_alloc] at this; exact this, (Below.refl _ _).alloc (by simp) _, by simp⟩
  case round =>
    obtain ⟨k, hk, rfl, hbld, hb, hsz⟩ := hrel
    by_cases hlt : k < n
    · obtain ⟨x, hx⟩ : ∃ x, xs[k]? = some x := ⟨_, List.getElem?_eq_getElem (by have := HN.out; omega)⟩
      obtain ⟨t, ht⟩ : ∃ t, ts[k]? = some t := ⟨_, List.getElem?_eq_getElem (by have := HL.out; have := HN.out; omega)⟩
      have hb0 : Below w.heap.size w wr := (((Below.refl _ _).alloc (Nat.le_refl _) _)).trans (hb.mono (by omega))
      obtain ⟨c0, c1, c2, c3⟩ := (HP.out.below hb0 HP.out.1).2 k x hx
      obtain ⟨hent, hcall⟩ := HU.out k x t hx ht
      have HT := Lib.hid (flatten_take_succ ht)
      have HTS := Lib.hid (show (ts.take k).flatten.length + t.length ≤ 140737488355328 by
        have h1 := flatten_take_succ ht
        have h2 := flatten_take_le ts (k + 1)
        rw [h1, List.length_append] at h2
        have := HS.out; omega)
      have HB := Lib.hid hb
      have HB0 := Lib.hid hb0
      have HBL := Lib.hid hbld
      clear hb hb0 hbld hx ht
      obtain ⟨xn, xk, pg, plb, tg, tlb⟩ := x
      simp only at c0 c1 c2 c3 hent
      have hent' : ∀ (args : Array Value) (w : World), (callFunc pg args).run Tryz.prog w = .ok (.enter pg args) w := hent
      clear hent
      have b0 : (0 : Int) ≤ (k : Int) := by omega
      have b1 : (k : Int) < (n : Int) := by omega
      go_wp2_with fail
      refine (hcall _ (HB.out.alloc (by omega) _)).mono ?_
      rintro e w2 ⟨rfl, hb2⟩
      have hs2 := hb2.size
      simp only [World.size_alloc] at hs2
      have HB2 := Lib.hid (isBuilder_below (isBuilder_below HBL.out ((Below.refl _ _).alloc (Nat.le_refl _) _)) hb2)
      have HB3 := Lib.hid ((HB.out.alloc (by omega) _).trans (hb2.mono (by simp; omega)))
      clear hb2
      go_wp2_with fail
      refine (writeString_any (w.heap.size + 1) (w.heap.size + 1) _ ⟨t.toArray⟩ _ HB2.out (by have := HTS.out; rw [Lib.byteCells_length]; show _ + t.length ≤ _; omega) (by omega)).mono ?_
      rintro e w3 ⟨rfl, hbld3, hb3⟩
      have hs3 := hb3.size
      rw [strCells_mk, ← Lib.byteCells_append, ← HT.out] at hbld3
      have HB4 := Lib.hid hbld3
      have HB5 := Lib.hid (HB3.out.trans hb3)
      clear hbld3 hb3
      go_wp2_with fail
      go_roundw
      case rel => exact ⟨k + 1, by omega, by go_num, Or.inr HB4.out, HB5.out, by omega⟩
      case measure => simp [intOf]; omega
    · obtain rfl : k = n := by omega
      have hTk : (ts.take k).flatten = ts.flatten := by rw [List.take_of_length_le (by have := HL.out; have := HN.out; omega)]
      have HBL := Lib.hid hbld
      have HB := Lib.hid hb
      have HT := Lib.hid hTk
      clear hbld hb hTk
      go_wp2_with fail
      refine (Tryz.Builder_String_any (w.heap.size + 1) (w.heap.size + 1) _ _ HBL.out (by omega)).mono ?_
      rintro e w2 ⟨rfl, hb2⟩
      go_wp2_with fail
      go_ret
      exact ⟨by rw [HT.out]; rfl, ((Below.refl _ _).alloc (Nat.le_refl _) _).trans ((HB.out.trans hb2).mono (by omega))⟩
end Go.Proofs.YtngceccpebdgmaaGreatDoor
