/- The reference's Parse: the walk. -/
import Derived.Test.YtnioghheklbecaaDoorParse
import Derived.Test.YtnioghheklbecaaDoorRef
import Derived.Test.YtnioghheklbecaaDoorRefPut
namespace Go.Proofs.YtnioghheklbecaaDoor
open Go.RowKit

/-- What the reference's Parse comes to. -/
def RPPost (r : Option (List Fd)) (w : World) (e : Ending) (w' : World) : Prop :=
  match r with
  | some fs => (∃ v, e = .returned (.tuple #[v, .bool true]) ∧ w'.ownsRow w.heap.size 57 4 v fs.length (fdCells fs)) ∧ Below w.heap.size w w'
  | none => e = .returned (.tuple #[.slice none 0 0, .bool false]) ∧ Below w.heap.size w w'
theorem RPPost.no {r : Option (List Fd)} {w : World} {e : Ending} {w' : World} (hr : r = none) (he : e = .returned (.tuple #[.slice none 0 0, .bool false])) (hb : Below w.heap.size w w') : RPPost r w e w' := by
  subst hr; exact ⟨he, hb⟩

/-- The head of a field, as the reference reads it. -/
theorem fieldOf_none1 {l : List UInt8} (h : rd l = none) : fieldOf l = none := by simp [fieldOf, tagOf, h]
theorem fieldOf_none2 {l : List UInt8} {v k : Nat} (h : rd l = some (v, k)) (hv : 4294967296 ≤ v ∨ v < 8) : fieldOf l = none := by
  have : ¬ (v ≤ 4294967295 ∧ 8 ≤ v ∧ kindB ((v % 8 : Nat) : Int) = true) := by omega
  simp only [fieldOf, tagOf, h]
  rw [if_neg this]
theorem fieldOf_none3 {l : List UInt8} {v k : Nat} (h : rd l = some (v, k)) (h0 : v % 8 ≠ 0) (h1 : v % 8 ≠ 1) (h2 : v % 8 ≠ 2) (h5 : v % 8 ≠ 5) : fieldOf l = none := by
  have : ¬ (v ≤ 4294967295 ∧ 8 ≤ v ∧ kindB ((v % 8 : Nat) : Int) = true) := by
    rintro ⟨_, _, hk⟩
    rcases kindB_cases hk with h | h | h | h <;> omega
  simp only [fieldOf, tagOf, h]
  rw [if_neg this]
theorem tagOf_of {l : List UInt8} {v k : Nat} (h : rd l = some (v, k)) (h1 : v < 4294967296) (h8 : 8 ≤ v) (hk : v % 8 = 0 ∨ v % 8 = 1 ∨ v % 8 = 2 ∨ v % 8 = 5) : tagOf l = some (v, k) := by
  have : v ≤ 4294967295 ∧ 8 ≤ v ∧ kindB ((v % 8 : Nat) : Int) = true := by
    refine ⟨by omega, h8, ?_⟩
    rcases hk with e | e | e | e <;> rw [e] <;> rfl
  simp only [tagOf, h]
  rw [if_pos this]
theorem fieldOf_fix {l : List UInt8} {v k σ : Nat} (h : tagOf l = some (v, k)) (hk : v % 8 = 1 ∧ σ = 8 ∨ v % 8 = 5 ∧ σ = 4) :
    fieldOf l = if k + σ ≤ l.length then some (⟨v / 8, v % 8, 0, (l.drop k).take σ⟩, k + σ) else none := by
  simp only [fieldOf, h]
  rcases hk with ⟨e, rfl⟩ | ⟨e, rfl⟩ <;> simp [e, fsz]
theorem fieldOf_num {l : List UInt8} {v k : Nat} (h : tagOf l = some (v, k)) (hk : v % 8 = 0) :
    fieldOf l = match rd (l.drop k) with | none => none | some (x, m) => some (⟨v / 8, 0, x, []⟩, k + m) := by
  simp only [fieldOf, h]
  rw [if_neg (by omega)]
  cases rd (l.drop k) with
  | none => rfl
  | some r => simp [hk]
theorem fieldOf_bytes {l : List UInt8} {v k : Nat} (h : tagOf l = some (v, k)) (hk : v % 8 = 2) :
    fieldOf l = match rd (l.drop k) with | none => none | some (x, m) => if x ≤ l.length - (k + m) then some (⟨v / 8, 2, 0, (l.drop (k + m)).take x⟩, k + m + x) else none := by
  simp only [fieldOf, h]
  rw [if_neg (by omega)]
  cases rd (l.drop k) with
  | none => rfl
  | some r => simp [hk]

/-- What is left to be read, and what has been. -/
def TRel (l : List UInt8) (t : ByteArray) (fs : List Fd) : Prop := parse l = (parse t.data.toList).map (fs ++ ·) ∧ fs.length + t.size ≤ l.length
theorem TRel.start (s : ByteArray) : TRel s.data.toList s [] := ⟨by simp, by simp⟩
theorem TRel.done {l : List UInt8} {t : ByteArray} {fs : List Fd} (h : TRel l t fs) (ht : t.size = 0) : parse l = some fs := by
  have e : t.data.toList = [] := List.eq_nil_of_length_eq_zero (by simpa using ht)
  rw [h.1, e, parse_nil]; simp
theorem TRel.bad {l : List UInt8} {t : ByteArray} {fs : List Fd} (h : TRel l t fs) (ht : 0 < t.size) (hf : fieldOf t.data.toList = none) : parse l = none := by
  rw [h.1, parse_none hf (by simpa using ht)]; rfl
theorem TRel.step {l : List UInt8} {t t' : ByteArray} {fs : List Fd} {x : Fd} {m : Nat} (h : TRel l t fs) (hf : fieldOf t.data.toList = some (x, m)) (ht : t'.data.toList = t.data.toList.drop m) : TRel l t' (fs ++ [x]) ∧ t'.size < t.size := by
  have hs := fieldOf_size hf
  have hl : t.data.toList.length = t.size := by simp
  have hl' : t'.data.toList.length = t'.size := by simp
  have h2 := h.2
  have e : t'.size = t.size - m := by rw [← hl', ht, List.length_drop, hl]
  refine ⟨⟨?_, by simp; omega⟩, by omega⟩
  rw [h.1, parse_some hf, ht]
  cases parse (t.data.toList.drop m) <;> simp
theorem news_two (W : World) (O : Obj) (cs : Array Value) (t : TypeId) : ∀ (j : Nat) (u : Value), cs.toList[j]? = some u → ((W.alloc O).alloc (.cells cs t)).cell? ((⟨W.heap.size + 1, 0, none⟩ : Addr).add j) = some u := by
  intro j u hu
  have h := World.cell?_alloc_mark (W.alloc O) cs t (0, 0) j
  have e : (⟨W.heap.size + 1, 0, none⟩ : Addr).add j = ⟨(W.alloc O).heap.size, j, none⟩ := by unfold Addr.add; split <;> simp_all
  rw [e]; exact h.trans (by simpa using hu)
def tsz (v : Value) : Nat := match v with | .string t => t.size | _ => 0

/-- The row's end of a round. -/
theorem fd_more {w w1 : World} {v' : Value} {fs : List Fd} {f : Fd} {e : TypeId} {X : Int} {Y : Int} {Z : Int} {S : ByteArray} (hown1 : w1.ownsRow w.heap.size e 4 v' (fs.length + 1) (fdCells fs ++ [.int .i64 X, .int .i64 Y, .int .u64 Z, .string S]))
    (hX : X = (f.num : Int)) (hY : Y = (f.kind : Int)) (hZ : Z = (f.n : Int)) (hS : S.data.toList = f.s) : w1.ownsRow w.heap.size e 4 v' (fs ++ [f]).length (fdCells (fs ++ [f])) := by
  subst hX hY hZ
  have : S = ⟨f.s.toArray⟩ := by rw [← hS]
  subst this
  rw [fdCells_snoc, List.length_append, List.length_singleton]; exact hown1

set_option maxRecDepth 100000 in
set_option maxHeartbeats 4000000 in
theorem refParse_any (s : ByteArray) (w : World) (hs : s.size ≤ 1099511627776) :
    Calls Tryd.prog 24 #[.string s] w fun e w' => RPPost (parse s.data.toList) w e w' := by
  obtain ⟨i0, hi, hz0, hz1, hz2⟩ := info_parts Tryd.infoRF
  obtain ⟨l, hl⟩ : ∃ l, s.data.toList = l := ⟨_, rfl⟩
  have hll : l.length = s.size := by rw [← hl]; simp
  have hst := TRel.start s
  rw [hl] at hst ⊢
  go_enter Tryd.func24, Tryd.ntmps24
  go_wp2_with fail
  go_loopw [0, 4] (fun sv out wr => ∃ (t : ByteArray) (fs : List Fd), sv = .string t ∧ TRel l t fs ∧ wr.ownsRow w.heap.size 57 4 out fs.length (fdCells fs) ∧ Below w.heap.size w wr) (fun sv _ _ => tsz sv)
  case atStart => exact ⟨s, [], rfl, hst, World.ownsRow_nil _ _ _ _, Below.refl _ _⟩
  case round =>
    clear hst hl
    obtain ⟨t, fs, rfl, hT, hown, hb⟩ := hrel
    have hTl := hT.2
    have HT := Lib.hid hT; clear hT
    have hbs := hb.size
    have hts : t.size ≤ maxLen := by unfold maxLen; omega
    have hdl : t.data.toList.length = t.size := by simp
    by_cases h0 : t.size = 0
    · have HP := Lib.hid (HT.out.done h0)
      go_wp2_with fail
      go_ret2
      exact (show RPPost _ _ _ _ by rw [HP.out]; exact ⟨⟨_, rfl, hown⟩, hb⟩)
    have hpos : (0 : Int) < (t.size : Int) := by omega
    cases hr : rd t.data.toList with
    | none =>
      have HNONE := Lib.hid (HT.out.bad (by omega) (fieldOf_none1 hr))
      have HR := Lib.hid (show rvVal (rd t.data.toList) = .tuple #[.int .u64 0, .int .i64 0, .bool false] by rw [hr]; rfl)
      clear hr
      go_wp2_with fail
      refine (refRead_any t _ hts).mono ?_
      rw [HR.out]
      rintro e w2 ⟨rfl, rfl⟩
      go_wp2_with fail
      go_ret2
      exact RPPost.no HNONE.out rfl hb
    | some r =>
      obtain ⟨v, k⟩ := r
      have hk := rd_size hr
      have hv := rd_bound hr
      have HR := Lib.hid (show rvVal (rd t.data.toList) = .tuple #[.int .u64 v, .int .i64 k, .bool true] by rw [hr]; rfl)
      have Hr := Lib.hid hr
      clear hr
      by_cases hbig : 4294967296 ≤ v
      · have HNONE := Lib.hid (HT.out.bad (by omega) (fieldOf_none2 Hr.out (.inl hbig)))
        go_wp2_with fail
        refine (refRead_any t _ hts).mono ?_
        rw [HR.out]
        rintro e w2 ⟨rfl, rfl⟩
        go_wp2_with fail
        go_ret2
        exact RPPost.no HNONE.out rfl hb
      by_cases hsm : v < 8
      · have HNONE := Lib.hid (HT.out.bad (by omega) (fieldOf_none2 Hr.out (.inr hsm)))
        have d1 : decide ((4294967296 : Int) ≤ (v : Int)) = false := by simp; omega
        go_wp2_with fail
        refine (refRead_any t _ hts).mono ?_
        rw [HR.out]
        rintro e w2 ⟨rfl, rfl⟩
        go_wp2_with fail
        go_ret2
        exact RPPost.no HNONE.out rfl hb
      have hdec1 : decide ((4294967296 : Int) ≤ (v : Int)) = false := by simp; omega
      have hdec2 : decide ((v : Int) < 8) = false := by simp; omega
      obtain ⟨κ, hκ⟩ : ∃ κ, v % 8 = κ := ⟨_, rfl⟩
      obtain ⟨ν, hν⟩ : ∃ ν, v / 8 = ν := ⟨_, rfl⟩
      have hκi : (v : Int) % 8 = (κ : Int) := by omega
      have hνi : (v : Int) / 8 = (ν : Int) := by omega
      have hν1 : ν ≤ 536870911 := by omega
      have hκ8 : κ < 8 := by omega
      have hv32 : v < 4294967296 := by omega
      have hv8 : 8 ≤ v := by omega
      obtain ⟨t1, ht1⟩ : ∃ t1, t.extract k t.size = t1 := ⟨_, rfl⟩
      have hd1 : t1.data.toList = t.data.toList.drop k := by rw [← ht1, extract_tail]
      have hs1 : t1.size = t.size - k := by
        have : t1.data.toList.length = t1.size := by simp
        rw [← this, hd1, List.length_drop, hdl]
      have hts1 : t1.size ≤ maxLen := by omega
      have hts1b : (t1.size : Int) ≤ 1099511627776 := by omega
      have Hd1 := Lib.hid hd1; clear hd1
      have Hs1 := Lib.hid hs1; clear hs1
      have Hν := Lib.hid hν; clear hν
      have Hv8 := Lib.hid hv8; clear hv8
      have Hv := Lib.hid hv; clear hv
      have hk1 : (k : Int) ≤ (t.size : Int) := by omega
      have hk0 : (0 : Int) ≤ (k : Int) := by omega
      clear hbig hsm
      by_cases hkk : ¬ (κ = 0 ∨ κ = 1 ∨ κ = 2 ∨ κ = 5)
      · have HNONE := Lib.hid (HT.out.bad (by omega) (fieldOf_none3 Hr.out (by omega) (by omega) (by omega) (by omega)))
        have q0 : ((κ : Int) == 0) = false := by simp; omega
        have q1 : ((κ : Int) == 1) = false := by simp; omega
        have q2 : ((κ : Int) == 2) = false := by simp; omega
        have q5 : ((κ : Int) == 5) = false := by simp; omega
        clear hκ hkk
        go_wp2_with fail
        refine (refRead_any t _ hts).mono ?_
        rw [HR.out]
        rintro e w2 ⟨rfl, rfl⟩
        go_wp2_with fail
        go_ret2
        exact RPPost.no HNONE.out rfl (hb.alloc hbs _)
      have HTAG := Lib.hid (tagOf_of Hr.out hv32 Hv8.out (by omega))
      clear hv32
      have hkc : κ = 0 ∨ κ = 1 ∨ κ = 2 ∨ κ = 5 := by omega
      clear hkk
      rcases hkc with rfl | rfl | rfl | rfl
      · have Hκ := Lib.hid hκ; clear hκ
        cases hr2 : rd t1.data.toList with
        | none =>
          have HNONE := Lib.hid (HT.out.bad (by omega) (by rw [fieldOf_num HTAG.out Hκ.out, ← Hd1.out, hr2]))
          have HR2 := Lib.hid (show rvVal (rd t1.data.toList) = .tuple #[.int .u64 0, .int .i64 0, .bool false] by rw [hr2]; rfl)
          clear hr2
          go_wp2_with fail
          refine (refRead_any t _ hts).mono ?_
          rw [HR.out]
          rintro e w2 ⟨rfl, rfl⟩
          go_wp2_with fail
          refine (refRead_any t1 _ hts1).mono ?_
          rw [HR2.out]
          rintro e w3 ⟨rfl, rfl⟩
          go_wp2_with fail
          go_ret2
          exact RPPost.no HNONE.out rfl (hb.alloc hbs _)
        | some r2 =>
          obtain ⟨x, m⟩ := r2
          have hm := rd_size hr2
          have hd1l : t1.data.toList.length = t1.size := by simp
          have hm1 : (m : Int) ≤ (t1.size : Int) := by omega
          have hm0 : (0 : Int) ≤ (m : Int) := by omega
          have HR2 := Lib.hid (show rvVal (rd t1.data.toList) = .tuple #[.int .u64 x, .int .i64 m, .bool true] by rw [hr2]; rfl)
          obtain ⟨t2, ht2⟩ : ∃ t2, t1.extract m t1.size = t2 := ⟨_, rfl⟩
          have hd2 : t2.data.toList = t.data.toList.drop (k + m) := by rw [← ht2, extract_tail, Hd1.out, List.drop_drop]
          have hs2 : t2.size = t.size - (k + m) := by
            have : t2.data.toList.length = t2.size := by simp
            rw [← this, hd2, List.length_drop, hdl]
          have hts2 : (t2.size : Int) ≤ 1099511627776 := by omega
          have HF := Lib.hid (show fieldOf t.data.toList = some (⟨ν, 0, x, []⟩, k + m) by rw [fieldOf_num HTAG.out Hκ.out, ← Hd1.out, hr2, Hν.out])
          have Hd2 := Lib.hid hd2; clear hd2
          have Hs2 := Lib.hid hs2; clear hs2
          clear hr2 hm hd1l
          go_wp2_with fail
          refine (refRead_any t _ hts).mono ?_
          rw [HR.out]
          rintro e w2 ⟨rfl, rfl⟩
          go_wp2_with fail
          refine (refRead_any t1 _ hts1).mono ?_
          rw [HR2.out]
          rintro e w3 ⟨rfl, rfl⟩
          go_wp2_with (at_builtin; go_must (refine wpList_append_own _ rfl _ _ 54 rfl w.heap.size 57 i0 _ 4 40 Tryd.underlying54 hi hz0 hz1 hz2 rfl (by omega) _ _ _ rfl ((hown.alloc _).alloc _) ⟨wr.heap.size + 1, 0, none⟩ 1 1 [.int .i64 ν, .int .i64 0, .int .u64 x, .string ByteArray.empty] rfl rfl (news_two wr _ _ _) (by simp [Value.oneCell']) (by unfold maxLen; omega) (by omega) (by simp; omega) ?_; intro v' w1 hown1 hgrow _))
          have hb1 : Below w.heap.size w w1 := ((hb.alloc hbs _).alloc (by simp; omega) _).grown hgrow (by simp; omega) (fun r e => (hown.lt r e).1)
          have Hst := Lib.hid (HT.out.step HF.out Hd2.out)
          go_roundw
          case rel => exact ⟨_, _, rfl, Hst.out.1, fd_more hown1 rfl rfl rfl rfl, hb1⟩
          case measure => exact Hst.out.2
      · have Hκ := Lib.hid hκ; clear hκ
        have hgo := fieldOf_fix (σ := 8) HTAG.out (by have := Hκ.out; omega)
        by_cases hfit : 8 ≤ t1.size
        · have hfi : (8 : Int) ≤ (t1.size : Int) := by omega
          have hdf : decide ((t1.size : Int) < 8) = false := by simp; omega
          rw [if_pos (by rw [hdl]; have := Hs1.out; omega), Hν.out, Hκ.out] at hgo
          obtain ⟨t2, ht2⟩ : ∃ t2, t1.extract 8 t1.size = t2 := ⟨_, rfl⟩
          have hd2 : t2.data.toList = t.data.toList.drop (k + 8) := by rw [← ht2, extract_tail, Hd1.out, List.drop_drop]
          obtain ⟨S, hS⟩ : ∃ S, t1.extract 0 8 = S := ⟨_, rfl⟩
          have hSd : S.data.toList = (t.data.toList.drop k).take 8 := by rw [← hS, extract_list, Hd1.out]; simp
          have Hd2 := Lib.hid hd2; clear hd2
          have HSd := Lib.hid hSd; clear hSd
          have Hst := Lib.hid (HT.out.step hgo Hd2.out)
          clear hgo hfit
          go_wp2_with fail
          refine (refRead_any t _ hts).mono ?_
          rw [HR.out]
          rintro e w2 ⟨rfl, rfl⟩
          go_wp2_with (at_builtin; go_must (refine wpList_append_own _ rfl _ _ 54 rfl w.heap.size 57 i0 _ 4 40 Tryd.underlying54 hi hz0 hz1 hz2 rfl (by omega) _ _ _ rfl ((hown.alloc _).alloc _) ⟨wr.heap.size + 1, 0, none⟩ 1 1 [.int .i64 ν, .int .i64 1, .int .u64 0, .string S] rfl rfl (news_two wr _ _ _) (by simp [Value.oneCell']) (by unfold maxLen; omega) (by omega) (by simp; omega) ?_; intro v' w1 hown1 hgrow _))
          have hb1 : Below w.heap.size w w1 := ((hb.alloc hbs _).alloc (by simp; omega) _).grown hgrow (by simp; omega) (fun r e => (hown.lt r e).1)
          go_roundw
          case rel => exact ⟨_, _, rfl, Hst.out.1, fd_more hown1 rfl rfl rfl HSd.out, hb1⟩
          case measure => exact Hst.out.2
        · have hdf : decide ((t1.size : Int) < 8) = true := by simp; omega
          rw [if_neg (by rw [hdl]; have := Hs1.out; omega)] at hgo
          have HNONE := Lib.hid (HT.out.bad (by omega) hgo)
          clear hgo hfit
          go_wp2_with fail
          refine (refRead_any t _ hts).mono ?_
          rw [HR.out]
          rintro e w2 ⟨rfl, rfl⟩
          go_wp2_with fail
          go_ret2
          exact RPPost.no HNONE.out rfl (hb.alloc hbs _)
      · have Hκ := Lib.hid hκ; clear hκ
        cases hr2 : rd t1.data.toList with
        | none =>
          have HNONE := Lib.hid (HT.out.bad (by omega) (by rw [fieldOf_bytes HTAG.out Hκ.out, ← Hd1.out, hr2]))
          have HR2 := Lib.hid (show rvVal (rd t1.data.toList) = .tuple #[.int .u64 0, .int .i64 0, .bool false] by rw [hr2]; rfl)
          clear hr2
          go_wp2_with fail
          refine (refRead_any t _ hts).mono ?_
          rw [HR.out]
          rintro e w2 ⟨rfl, rfl⟩
          go_wp2_with fail
          refine (refRead_any t1 _ hts1).mono ?_
          rw [HR2.out]
          rintro e w3 ⟨rfl, rfl⟩
          go_wp2_with fail
          go_ret2
          exact RPPost.no HNONE.out rfl (hb.alloc hbs _)
        | some r2 =>
          obtain ⟨x, m⟩ := r2
          have hm := rd_size hr2
          have hxb := rd_bound hr2
          have hd1l : t1.data.toList.length = t1.size := by simp
          have hm1 : (m : Int) ≤ (t1.size : Int) := by omega
          have hm0 : (0 : Int) ≤ (m : Int) := by omega
          have HR2 := Lib.hid (show rvVal (rd t1.data.toList) = .tuple #[.int .u64 x, .int .i64 m, .bool true] by rw [hr2]; rfl)
          obtain ⟨t2, ht2⟩ : ∃ t2, t1.extract m t1.size = t2 := ⟨_, rfl⟩
          have hd2 : t2.data.toList = t.data.toList.drop (k + m) := by rw [← ht2, extract_tail, Hd1.out, List.drop_drop]
          have hs2 : t2.size = t.size - (k + m) := by
            have : t2.data.toList.length = t2.size := by simp
            rw [← this, hd2, List.length_drop, hdl]
          have hts2 : (t2.size : Int) ≤ 1099511627776 := by omega
          have hgo := fieldOf_bytes HTAG.out Hκ.out
          rw [← Hd1.out, hr2] at hgo
          simp only at hgo
          have Hd2 := Lib.hid hd2; clear hd2
          have Hs2 := Lib.hid hs2; clear hs2
          have Hxb := Lib.hid hxb; clear hxb
          clear hr2 hm hd1l
          by_cases hfit : x ≤ t2.size
          · have hfi : (x : Int) ≤ (t2.size : Int) := by omega
            have hfi0 : (0 : Int) ≤ (x : Int) := by omega
            have hdf : decide ((t2.size : Int) < (x : Int)) = false := by simp; omega
            rw [if_pos (by rw [hdl]; have := Hs2.out; omega), Hν.out] at hgo
            obtain ⟨t3, ht3⟩ : ∃ t3, t2.extract x t2.size = t3 := ⟨_, rfl⟩
            have hd3 : t3.data.toList = t.data.toList.drop (k + m + x) := by rw [← ht3, extract_tail, Hd2.out, List.drop_drop]
            obtain ⟨S, hS⟩ : ∃ S, t2.extract 0 x = S := ⟨_, rfl⟩
            have hSd : S.data.toList = (t.data.toList.drop (k + m)).take x := by rw [← hS, extract_list, Hd2.out]; simp
            have HSd := Lib.hid hSd; clear hSd
            have Hst := Lib.hid (HT.out.step hgo hd3)
            clear hgo hfit hd3
            go_wp2_with fail
            refine (refRead_any t _ hts).mono ?_
            rw [HR.out]
            rintro e w2 ⟨rfl, rfl⟩
            go_wp2_with fail
            refine (refRead_any t1 _ hts1).mono ?_
            rw [HR2.out]
            rintro e w3 ⟨rfl, rfl⟩
            go_wp2_with (at_builtin; go_must (refine wpList_append_own _ rfl _ _ 54 rfl w.heap.size 57 i0 _ 4 40 Tryd.underlying54 hi hz0 hz1 hz2 rfl (by omega) _ _ _ rfl ((hown.alloc _).alloc _) ⟨wr.heap.size + 1, 0, none⟩ 1 1 [.int .i64 ν, .int .i64 2, .int .u64 0, .string S] rfl rfl (news_two wr _ _ _) (by simp [Value.oneCell']) (by unfold maxLen; omega) (by omega) (by simp; omega) ?_; intro v' w1 hown1 hgrow _))
            have hb1 : Below w.heap.size w w1 := ((hb.alloc hbs _).alloc (by simp; omega) _).grown hgrow (by simp; omega) (fun r e => (hown.lt r e).1)
            go_roundw
            case rel => exact ⟨_, _, rfl, Hst.out.1, fd_more hown1 rfl rfl rfl HSd.out, hb1⟩
            case measure => exact Hst.out.2
          · have hdf : decide ((t2.size : Int) < (x : Int)) = true := by simp; omega
            have hdn : t2.size < x := by omega
            rw [if_neg (by rw [hdl]; have := Hs2.out; omega)] at hgo
            have HNONE := Lib.hid (HT.out.bad (by omega) hgo)
            clear hgo hfit
            go_wp2_with fail
            refine (refRead_any t _ hts).mono ?_
            rw [HR.out]
            rintro e w2 ⟨rfl, rfl⟩
            go_wp2_with fail
            refine (refRead_any t1 _ hts1).mono ?_
            rw [HR2.out]
            rintro e w3 ⟨rfl, rfl⟩
            go_wp2_with fail
            go_ret2
            exact RPPost.no HNONE.out rfl (hb.alloc hbs _)
      · have Hκ := Lib.hid hκ; clear hκ
        have hgo := fieldOf_fix (σ := 4) HTAG.out (by have := Hκ.out; omega)
        by_cases hfit : 4 ≤ t1.size
        · have hfi : (4 : Int) ≤ (t1.size : Int) := by omega
          have hdf : decide ((t1.size : Int) < 4) = false := by simp; omega
          rw [if_pos (by rw [hdl]; have := Hs1.out; omega), Hν.out, Hκ.out] at hgo
          obtain ⟨t2, ht2⟩ : ∃ t2, t1.extract 4 t1.size = t2 := ⟨_, rfl⟩
          have hd2 : t2.data.toList = t.data.toList.drop (k + 4) := by rw [← ht2, extract_tail, Hd1.out, List.drop_drop]
          obtain ⟨S, hS⟩ : ∃ S, t1.extract 0 4 = S := ⟨_, rfl⟩
          have hSd : S.data.toList = (t.data.toList.drop k).take 4 := by rw [← hS, extract_list, Hd1.out]; simp
          have Hd2 := Lib.hid hd2; clear hd2
          have HSd := Lib.hid hSd; clear hSd
          have Hst := Lib.hid (HT.out.step hgo Hd2.out)
          clear hgo hfit
          go_wp2_with fail
          refine (refRead_any t _ hts).mono ?_
          rw [HR.out]
          rintro e w2 ⟨rfl, rfl⟩
          go_wp2_with (at_builtin; go_must (refine wpList_append_own _ rfl _ _ 54 rfl w.heap.size 57 i0 _ 4 40 Tryd.underlying54 hi hz0 hz1 hz2 rfl (by omega) _ _ _ rfl ((hown.alloc _).alloc _) ⟨wr.heap.size + 1, 0, none⟩ 1 1 [.int .i64 ν, .int .i64 5, .int .u64 0, .string S] rfl rfl (news_two wr _ _ _) (by simp [Value.oneCell']) (by unfold maxLen; omega) (by omega) (by simp; omega) ?_; intro v' w1 hown1 hgrow _))
          have hb1 : Below w.heap.size w w1 := ((hb.alloc hbs _).alloc (by simp; omega) _).grown hgrow (by simp; omega) (fun r e => (hown.lt r e).1)
          go_roundw
          case rel => exact ⟨_, _, rfl, Hst.out.1, fd_more hown1 rfl rfl rfl HSd.out, hb1⟩
          case measure => exact Hst.out.2
        · have hdf : decide ((t1.size : Int) < 4) = true := by simp; omega
          rw [if_neg (by rw [hdl]; have := Hs1.out; omega)] at hgo
          have HNONE := Lib.hid (HT.out.bad (by omega) hgo)
          clear hgo hfit
          go_wp2_with fail
          refine (refRead_any t _ hts).mono ?_
          rw [HR.out]
          rintro e w2 ⟨rfl, rfl⟩
          go_wp2_with fail
          go_ret2
          exact RPPost.no HNONE.out rfl (hb.alloc hbs _)
end Go.Proofs.YtnioghheklbecaaDoor
