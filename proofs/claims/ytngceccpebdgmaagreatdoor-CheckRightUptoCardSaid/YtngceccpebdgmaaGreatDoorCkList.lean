/- check: what a payload is looked at for: rules, policy, secret, key; the rules of a route: the walks. -/
import Derived.Test.YtngceccpebdgmaaGreatDoorCkBody
namespace Go.Proofs.YtngceccpebdgmaaGreatDoor
open Go.RowKit Go.Shelf

def wAnyRule (p : Pl) : Wr := wrIf (p.rules.length == 0) ⟨#[114, 117, 108, 101, 115]⟩
def wPolicy (p : Pl) : Wr := wrIf (decide (2 < p.policy)) ⟨#[112, 111, 108, 105, 99, 121]⟩
def wSecret (p : Pl) : Wr := wrIf (!(p.secret.toList.isEmpty) && !(nmOk p.secret)) ⟨#[115, 101, 99, 114, 101, 116]⟩
def wKey (p : Pl) : Wr := wrIf (decide (p.key.size < 16) || decide (64 < p.key.size)) ⟨#[107, 101, 121]⟩

set_option maxRecDepth 100000 in
theorem anyRule_any (p : Pl) (a3 a6 : Option Addr) (c3 c6 : Nat) (w : World) : Calls Tryz.prog 70 #[plV p a3 c3 a6 c6] w fun e w' => e = .returned (wAnyRule p).v ∧ Below w.heap.size w w' := by
  obtain ⟨n, hn⟩ : ∃ n, p.rules.length = n := ⟨_, rfl⟩
  have HW := Lib.hid (show wAnyRule p = wrIf (n == 0) ⟨#[114, 117, 108, 101, 115]⟩ by unfold wAnyRule; rw [hn])
  have HN := Lib.hid hn
  obtain ⟨A, qa⟩ : ∃ A, (n == 0) = A := ⟨_, rfl⟩
  have q2 : ((n : Int) == 0) = A := by rw [← qa, Bool.eq_iff_iff]; simp
  rw [qa] at HW
  unfold plV
  rw [hn]
  clear hn
  cases A
  all_goals
    go_enter Tryz.func70, Tryz.ntmps70
    go_wp2_with (go_at_call 101; refine (faultIf_any _ _ _).mono ?_; rintro e w' ⟨rfl, rfl⟩)
    go_ret
    exact ⟨by rw [HW.out]; rfl, (Below.refl _ _).alloc (Nat.le_refl _) _⟩
set_option maxRecDepth 100000 in
theorem policy_any (p : Pl) (a3 a6 : Option Addr) (c3 c6 : Nat) (w : World) : Calls Tryz.prog 72 #[plV p a3 c3 a6 c6] w fun e w' => e = .returned (wPolicy p).v ∧ Below w.heap.size w w' := by
  obtain ⟨A, qa⟩ : ∃ A, decide (2 < p.policy) = A := ⟨_, rfl⟩
  have HW := Lib.hid (show wPolicy p = wrIf A ⟨#[112, 111, 108, 105, 99, 121]⟩ by unfold wPolicy; rw [qa])
  have q2 : decide ((2 : Int) < (p.policy : Int)) = A := by rw [← qa]; by_cases h : 2 < p.policy <;> simp [h] <;> omega
  go_enter Tryz.func72, Tryz.ntmps72
  go_wp2_with fail
  refine (faultIf_any _ _ _).mono ?_
  rintro e w' ⟨rfl, rfl⟩
  go_wp2_with fail
  go_ret
  exact ⟨by rw [HW.out]; rfl, (Below.refl _ _).alloc (Nat.le_refl _) _⟩
set_option maxRecDepth 100000 in
theorem secret_any (p : Pl) (a3 a6 : Option Addr) (c3 c6 : Nat) (w : World) : Calls Tryz.prog 73 #[plV p a3 c3 a6 c6] w fun e w' => e = .returned (wSecret p).v ∧ Below w.heap.size w w' := by
  obtain ⟨A, qa⟩ : ∃ A, p.secret.toList.isEmpty = A := ⟨_, rfl⟩
  obtain ⟨B, qb⟩ : ∃ B, nmOk p.secret = B := ⟨_, rfl⟩
  have HW := Lib.hid (show wSecret p = wrIf (!A && !B) ⟨#[115, 101, 99, 114, 101, 116]⟩ by unfold wSecret; rw [qa, qb])
  have HB := Lib.hid qb
  clear qb
  cases A
  · go_enter Tryz.func73, Tryz.ntmps73
    go_wp2_with fail
    refine (name_any _ _).mono ?_
    rintro e w' ⟨rfl, rfl⟩
    rw [HB.out]
    go_wp2_with fail
    refine (faultIf_any _ _ _).mono ?_
    rintro e w' ⟨rfl, rfl⟩
    go_wp2_with fail
    go_ret
    exact ⟨by rw [HW.out]; rfl, (Below.refl _ _).alloc (Nat.le_refl _) _⟩
  · go_enter Tryz.func73, Tryz.ntmps73
    go_wp2_with fail
    refine (faultIf_any _ _ _).mono ?_
    rintro e w' ⟨rfl, rfl⟩
    go_wp2_with fail
    go_ret
    exact ⟨by rw [HW.out]; rfl, (Below.refl _ _).alloc (Nat.le_refl _) _⟩
set_option maxRecDepth 100000 in
theorem key5_any (p : Pl) (a3 a6 : Option Addr) (c3 c6 : Nat) (w : World) : Calls Tryz.prog 76 #[plV p a3 c3 a6 c6] w fun e w' => e = .returned (wKey p).v ∧ Below w.heap.size w w' := by
  by_cases h1 : p.key.size < 16
  · have h1' : (p.key.size : Int) < 16 := by omega
    have HW := Lib.hid (show wKey p = wrIf true ⟨#[107, 101, 121]⟩ by unfold wKey; simp [h1])
    go_enter Tryz.func76, Tryz.ntmps76
    go_wp2_with fail
    first | rw [show decide ((p.key.size : Int) < 16) = true by simpa using h1] | skip
    refine (faultIf_any true _ _).mono ?_
    rintro e w' ⟨rfl, rfl⟩
    go_wp2_with fail
    go_ret
    exact ⟨by rw [HW.out]; rfl, (Below.refl _ _).alloc (Nat.le_refl _) _⟩
  · have h1' : (16 : Int) ≤ (p.key.size : Int) := by omega
    obtain ⟨A, qa⟩ : ∃ A, decide (64 < p.key.size) = A := ⟨_, rfl⟩
    have q2 : decide ((64 : Int) < (p.key.size : Int)) = A := by rw [← qa]; by_cases h : 64 < p.key.size <;> simp [h] <;> omega
    have HW := Lib.hid (show wKey p = wrIf A ⟨#[107, 101, 121]⟩ by unfold wKey; rw [qa]; simp [h1])
    go_enter Tryz.func76, Tryz.ntmps76
    go_wp2_with fail
    first | rw [q2] | rw [qa] | skip
    refine (faultIf_any A _ _).mono ?_
    rintro e w' ⟨rfl, rfl⟩
    go_wp2_with fail
    go_ret
    exact ⟨by rw [HW.out]; rfl, (Below.refl _ _).alloc (Nat.le_refl _) _⟩
end Go.Proofs.YtngceccpebdgmaaGreatDoor
namespace Go.Proofs.YtngceccpebdgmaaGreatDoor
open Go.RowKit Go.Shelf

/-- Does a text begin with another one? -/
def hpB (s p : ByteArray) : Bool := decide (p.size ≤ s.size) && ((s.extract 0 p.size).toList == p.toList)

set_option maxRecDepth 100000 in
theorem slPrefix_any (s p : ByteArray) (w : World) : Calls Tryz.prog 213 #[.string s, .string p] w fun e w' => e = .returned (.bool (hpB s p)) ∧ w = w' := by
  by_cases h : p.size ≤ s.size
  · have h1 : (p.size : Int) ≤ (s.size : Int) := by omega
    have h2 : (0 : Int) ≤ (p.size : Int) := by omega
    have HW := Lib.hid (show hpB s p = ((s.extract 0 p.size).toList == p.toList) by unfold hpB; simp [h])
    go_enter Tryz.func213, Tryz.ntmps213
    go_wp2_with fail
    go_ret
    exact ⟨by rw [HW.out]; rfl, rfl⟩
  · have h1 : (s.size : Int) < (p.size : Int) := by omega
    have HW := Lib.hid (show hpB s p = false by unfold hpB; simp [h])
    go_enter Tryz.func213, Tryz.ntmps213
    go_wp2_with fail
    go_ret
    exact ⟨by rw [HW.out]; rfl, rfl⟩
set_option maxRecDepth 100000 in
theorem hasPrefix_any (s p : ByteArray) (w : World) : Calls Tryz.prog 212 #[.string s, .string p] w fun e w' => e = .returned (.bool (hpB s p)) ∧ w = w' := by
  go_enter Tryz.func212, Tryz.ntmps212
  go_wp2_with (go_at_call 213; refine (slPrefix_any _ _ _).mono ?_; rintro e w' ⟨rfl, rfl⟩)
  go_ret
  exact ⟨rfl, rfl⟩

/-- Is a rule wrong? -/
def rlBad (rs : List Rl) (i : Nat) (r : Rl) : Bool := !(hpB r.pre ⟨#[47]⟩) || !(nmOk r.clu) || (rs.take i).any fun e => hpB r.pre e.pre
theorem any_yes {f : Rl → Bool} {rs : List Rl} {i j : Nat} {e : Rl} (hj : rs[j]? = some e) (hji : j < i) (h : f e = true) : (rs.take i).any f = true := by
  rw [List.any_eq_true]
  refine ⟨e, ?_, h⟩
  rw [List.mem_take_iff_getElem]
  obtain ⟨hl, he⟩ := List.getElem?_eq_some_iff.1 hj
  exact ⟨j, by omega, he⟩
theorem any_no {f : Rl → Bool} {rs : List Rl} {i : Nat} (h : ∀ j e, j < i → rs[j]? = some e → f e = false) : (rs.take i).any f = false := by
  rw [List.any_eq_false]
  intro e he
  rw [List.mem_take_iff_getElem] at he
  obtain ⟨j, hj, rfl⟩ := he
  have := h j _ (by omega) (List.getElem?_eq_getElem (by omega))
  rw [this]; simp
set_option maxRecDepth 100000 in
set_option maxHeartbeats 2000000 in
theorem rule_wrong (a : Option Addr) (c i : Nat) (rs : List Rl) (r : Rl) (w : World) (h : RulesAt w a rs) (hr : rs[i]? = some r) (hl : rs.length ≤ 64) (hc : rs.length ≤ c) :
    Calls Tryz.prog 211 #[.slice a rs.length c, .int .i64 (i : Int)] w fun e w' => e = .returned (.bool (rlBad rs i r)) ∧ Below w.heap.size w w' := by
  have hi : i < rs.length := (List.getElem?_eq_some_iff.1 hr).1
  obtain ⟨n, hn⟩ : ∃ n, rs.length = n := ⟨_, rfl⟩
  obtain ⟨g, off, ha, hgl, k0, k1⟩ := h i r hr
  have HR := Lib.hid h
  subst ha
  rw [hn] at hi hl hc ⊢
  have HN := Lib.hid hn
  have HRR := Lib.hid hr
  have i1 : (i : Int) < (n : Int) := by omega
  have i2 : (0 : Int) ≤ (i : Int) := by omega
  have i3 : (i : Int) ≤ (c : Int) := by omega
  clear h hn hr
  go_enter Tryz.func211, Tryz.ntmps211
  go_wp2_with fail
  have hb0 := below_alloc w (.cells #[.string r.pre, .string r.clu] 42)
  have b0 := (new_cell w #[.string r.pre, .string r.clu] 42 0).trans rfl
  have b1 := (new_cell w #[.string r.pre, .string r.clu] 42 1).trans rfl
  have hlt : w.heap.size < (w.alloc (.cells #[.string r.pre, .string r.clu] 42)).heap.size := by simp
  revert hb0 b0 b1 hlt
  generalize w.alloc (.cells #[.string r.pre, .string r.clu] 42) = W0
  intro hb0 b0 b1 hlt
  have HB0 := Lib.hid hb0
  have HR0 := Lib.hid (HR.out.below hb0)
  clear hb0 k0 k1
  refine (hasPrefix_any _ _ _).mono ?_
  rintro e w' ⟨rfl, rfl⟩
  cases hA : hpB r.pre ⟨#[47]⟩ with
  | false =>
    have HW := Lib.hid (show rlBad rs i r = true by unfold rlBad; rw [hA]; rfl)
    clear hA
    go_wp2_with fail
    go_ret
    exact ⟨by rw [HW.out]; rfl, HB0.out⟩
  | true =>
    have HA := Lib.hid hA
    clear hA
    go_wp2_with fail
    refine (name_any _ _).mono ?_
    rintro e w' ⟨rfl, rfl⟩
    cases hN : nmOk r.clu with
    | false =>
      have HW := Lib.hid (show rlBad rs i r = true by unfold rlBad; rw [hN]; cases hpB r.pre ⟨#[47]⟩ <;> rfl)
      clear hN
      go_wp2_with fail
      go_ret
      exact ⟨by rw [HW.out]; rfl, HB0.out⟩
    | true =>
      have HNM := Lib.hid (show rlBad rs i r = (rs.take i).any fun e => hpB r.pre e.pre by unfold rlBad; rw [HA.out, hN]; rfl)
      clear hN
      go_wp2_with fail
      go_loopw [26] (fun v wr => ∃ j : Nat, v = .int .i64 j ∧ j ≤ i ∧ (∀ k e, k < j → rs[k]? = some e → hpB r.pre e.pre = false) ∧ Below W0.heap.size W0 wr) (fun v _ => i - (intOf v).toNat)
      case atStart => exact ⟨0, rfl, Nat.zero_le _, fun _ _ h => absurd h (Nat.not_lt_zero _), Below.refl _ _⟩
      case round =>
        obtain ⟨j, rfl, hji, hno, hbw⟩ := hrel
        have HNO := Lib.hid hno
        have HBW := Lib.hid hbw
        have c0 := (hbw.cell (p := ⟨w.heap.size, 0, none⟩) hlt).trans b0
        have hz := hbw.size
        have hlt2 : w.heap.size < wr.heap.size := by omega
        clear hno hbw
        by_cases hj : j < i
        · obtain ⟨e, he⟩ : ∃ e, rs[j]? = some e := ⟨_, List.getElem?_eq_getElem (by have := HN.out; omega)⟩
          obtain ⟨g', off', ha', hgl', e0, e1⟩ := (HR0.out.below HBW.out) j e he
          obtain ⟨rfl, rfl⟩ : g = g' ∧ off = off' := by simpa using ha'
          have j1 : (j : Int) < (i : Int) := by omega
          have j2 : (0 : Int) ≤ (j : Int) := by omega
          have HEE := Lib.hid he
          clear ha' he
          go_wp2_with fail
          refine (hasPrefix_any _ _ _).mono ?_
          rintro e' w' ⟨rfl, rfl⟩
          cases hP : hpB r.pre e.pre with
          | true =>
            have HW := Lib.hid (show rlBad rs i r = true by rw [HNM.out]; exact any_yes HEE.out hj hP)
            clear hP
            go_wp2_with fail
            go_ret
            exact ⟨by rw [HW.out]; rfl, HB0.out.trans ((HBW.out.alloc hz _).mono HB0.out.size)⟩
          | false =>
            have HP := Lib.hid hP
            clear hP
            go_wp2_with fail
            go_roundw
            case rel => exact ⟨j + 1, by go_num, by omega, fun k x hk hx => by
              by_cases hkj : k = j
              · subst hkj
                obtain rfl := Option.some.inj (HEE.out.symm.trans hx)
                exact HP.out
              · exact HNO.out k x (by omega) hx, HBW.out.alloc hz _⟩
            case measure => simp [intOf]; omega
        · have HW := Lib.hid (show rlBad rs i r = false by rw [HNM.out]; exact any_no fun k x hk hx => HNO.out k x (by omega) hx)
          go_wp2_with fail
          go_ret
          exact ⟨by rw [HW.out]; rfl, HB0.out.trans (HBW.out.mono HB0.out.size)⟩

/-- The place of the first that is wrong. -/
def firstI (f : Nat → Bool) : Nat → Option Nat
  | 0 => none
  | n + 1 => match firstI f n with
    | some i => some i
    | none => if f n then some n else none
theorem firstI_none {f : Nat → Bool} : ∀ {n : Nat}, (∀ k, k < n → f k = false) → firstI f n = none
  | 0, _ => rfl
  | n + 1, h => by
    unfold firstI
    rw [firstI_none fun k hk => h k (by omega)]
    simp only [h n (by omega)]
    rfl
theorem firstI_some {f : Nat → Bool} {j : Nat} (hf : f j = true) (h : ∀ k, k < j → f k = false) : ∀ {n : Nat}, j < n → firstI f n = some j
  | 0, hj => absurd hj (Nat.not_lt_zero _)
  | n + 1, hj => by
    unfold firstI
    by_cases he : j = n
    · subst he
      rw [firstI_none h]
      simp only [hf]
      rfl
    · rw [firstI_some hf h (show j < n by omega)]
def rlBadAt (rs : List Rl) (i : Nat) : Bool := match rs[i]? with
  | some r => rlBad rs i r
  | none => false
def wrAt (o : Option Nat) (s : ByteArray) : Wr := match o with
  | some i => .pl i s
  | none => .no
def wEachRule (p : Pl) : Wr := wrAt (firstI (rlBadAt p.rules) p.rules.length) ⟨#[114, 117, 108, 101]⟩

theorem Tryz.mSizeR (n : Nat) (v : Value) (w : World) : (Go.method (n + 1) 183 v "noria/check.size").run Tryz.prog w = .ok (210, v) w := by kernel_rfl
theorem Tryz.mWrongR (n : Nat) (v : Value) (w : World) : (Go.method (n + 1) 183 v "noria/check.wrongAt").run Tryz.prog w = .ok (211, v) w := by kernel_rfl
set_option maxRecDepth 100000 in
theorem size_rules (a : Option Addr) (n c : Nat) (w : World) : Calls Tryz.prog 210 #[.slice a n c] w fun e w' => e = .returned (.int .i64 (n : Int)) ∧ w = w' := by
  go_enter Tryz.func210, Tryz.ntmps210
  go_wp2_with fail
  go_ret
  exact ⟨rfl, rfl⟩
set_option maxRecDepth 100000 in
set_option maxHeartbeats 2000000 in
theorem faultIn_rules (a : Option Addr) (c : Nat) (rs : List Rl) (s : ByteArray) (w : World) (h : RulesAt w a rs) (hl : rs.length ≤ 64) (hc : rs.length ≤ c) :
    Calls Tryz.prog 103 #[.iface 183 (.slice a rs.length c), .string s] w fun e w' => e = .returned (wrAt (firstI (rlBadAt rs) rs.length) s).v ∧ Below w.heap.size w w' := by
  have HR := Lib.hid h
  have HC := Lib.hid hc
  have HL := Lib.hid hl
  obtain ⟨n, hn⟩ : ∃ n, rs.length = n := ⟨_, rfl⟩
  have HN := Lib.hid hn
  have m1 := Tryz.mSizeR
  have m2 := Tryz.mWrongR
  rw [hn] at hl ⊢
  clear h hn hc
  go_enter Tryz.func103, Tryz.ntmps103
  go_wp2_with fail
  refine (size_rules _ _ _ _).mono ?_
  rintro e w' ⟨rfl, rfl⟩
  go_wp2_with fail
  go_loopw [8] (fun v wr => ∃ j : Nat, v = .int .i64 j ∧ j ≤ n ∧ (∀ k, k < j → rlBadAt rs k = false) ∧ Below w.heap.size w wr) (fun v _ => n - (intOf v).toNat)
  case atStart => exact ⟨0, rfl, Nat.zero_le _, fun _ h => absurd h (Nat.not_lt_zero _), Below.refl _ _⟩
  case round =>
    obtain ⟨j, rfl, hjn, hno, hbw⟩ := hrel
    have HNO := Lib.hid hno
    have HBW := Lib.hid hbw
    clear hno hbw
    by_cases hj : j < n
    · obtain ⟨r, hr⟩ : ∃ r, rs[j]? = some r := ⟨_, List.getElem?_eq_getElem (by have := HN.out; omega)⟩
      have HRR := Lib.hid hr
      have HBA := Lib.hid (show rlBadAt rs j = rlBad rs j r by unfold rlBadAt; rw [hr])
      have j1 : (j : Int) < (n : Int) := by omega
      clear hr
      go_wp2_with fail
      have hcall := rule_wrong a c j rs r wr (HR.out.below HBW.out) HRR.out HL.out HC.out
      rw [HN.out] at hcall
      refine hcall.mono ?_
      clear hcall
      rintro e w2 ⟨rfl, hb2⟩
      have HB2 := Lib.hid (HBW.out.trans (hb2.mono HBW.out.size))
      clear hb2
      cases hP : rlBad rs j r with
      | true =>
        have HW := Lib.hid (show firstI (rlBadAt rs) rs.length = some j from firstI_some (by rw [HBA.out]; exact hP) HNO.out (by have := HN.out; omega))
        clear hP
        go_wp2_with fail
        go_ret
        exact ⟨by rw [show firstI (rlBadAt rs) n = some j from (congrArg _ HN.out.symm).trans HW.out]; rfl, HB2.out⟩
      | false =>
        have HP := Lib.hid hP
        clear hP
        go_wp2_with fail
        go_roundw
        case rel => exact ⟨j + 1, by go_num, by omega, fun k hk => by
          by_cases hkj : k = j
          · subst hkj; rw [HBA.out]; exact HP.out
          · exact HNO.out k (by omega), HB2.out⟩
        case measure => simp [intOf]; omega
    · have HW := Lib.hid (show firstI (rlBadAt rs) n = none from firstI_none fun k hk => HNO.out k (by omega))
      go_wp2_with fail
      go_ret
      exact ⟨by rw [HW.out]; rfl, HBW.out⟩
set_option maxRecDepth 100000 in
theorem eachRule_any (p : Pl) (a3 a6 : Option Addr) (c3 c6 : Nat) (w : World) (h : RulesAt w a3 p.rules) (hl : p.rules.length ≤ 64) (hc : p.rules.length ≤ c3) : Calls Tryz.prog 71 #[plV p a3 c3 a6 c6] w fun e w' => e = .returned (wEachRule p).v ∧ Below w.heap.size w w' := by
  have HR := Lib.hid h
  have HL := Lib.hid hl
  have HC := Lib.hid hc
  clear h hl hc
  go_enter Tryz.func71, Tryz.ntmps71
  go_wp2_with fail
  refine (faultIn_rules a3 c3 p.rules _ _ (HR.out.below (below_alloc _ _)) HL.out HC.out).mono ?_
  rintro e w2 ⟨rfl, hb⟩
  have HB := Lib.hid ((below_alloc w _).trans (hb.mono (by simp)))
  clear hb
  go_wp2_with fail
  go_ret
  exact ⟨rfl, HB.out⟩
end Go.Proofs.YtngceccpebdgmaaGreatDoor
