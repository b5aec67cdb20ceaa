/- CheckNames: the walk. -/
import Derived.Test.YtngceccpebdgmaaGreatDoorCkEx
import Derived.Laws.MakeOwn
namespace Go.Proofs.YtngceccpebdgmaaGreatDoor.ckNames
open Go.RowKit

theorem rowM_text {P : Program} {w : World} {base g cap n : Nat} {e src dst : TypeId} {l : List UInt8} (hs : P.underlying src = some (.slice e)) (he : P.underlying e = some (.int .u8)) (hd : P.underlying dst = some .string)
    (h : RowM w base e g cap (l.map fun x => Value.int .u8 (x.toNat : Int))) (hn : l.length = n) :
    (convert src dst (.slice (some ⟨g, 0, none⟩) n cap)).run P w = .ok (.string ⟨l.toArray⟩) w := by
  subst hn
  refine run_convert_bytes_back w src dst e ⟨g, 0, none⟩ cap l hs he hd fun j hj => ?_
  have e : (⟨g, 0, none⟩ : Addr).add j = ⟨g, j, none⟩ := by unfold Addr.add; split <;> simp_all
  rw [e]; exact h.cell (by simp [hj])

/-- The byte that the law lays at a place. -/
def pat (j : Nat) : Nat := [97, 98, 99, 120, 121, 122, 48, 49, 56, 57, 45, 46, 47].getD (j % 13) 0
theorem pat_of {j r : Nat} (h : j % 13 = r) : pat j = [97, 98, 99, 120, 121, 122, 48, 49, 56, 57, 45, 46, 47].getD r 0 := by unfold pat; rw [h]
theorem mod13 (j : Nat) : j % 13 = 0 ∨ j % 13 = 1 ∨ j % 13 = 2 ∨ j % 13 = 3 ∨ j % 13 = 4 ∨ j % 13 = 5 ∨ j % 13 = 6 ∨ j % 13 = 7 ∨ j % 13 = 8 ∨ j % 13 = 9 ∨ j % 13 = 10 ∨ j % 13 = 11 ∨ j % 13 = 12 := by omega
theorem pat_good (j : Nat) : pat j < 256 ∧ nmB (pat j : Int) = true := by
  rcases mod13 j with h | h | h | h | h | h | h | h | h | h | h | h | h <;> (rw [pat_of h]; exact ⟨by decide, by decide⟩)
def patL (k : Nat) : List UInt8 := (List.range k).map fun j => UInt8.ofNat (pat j)
theorem patL_len (k : Nat) : (patL k).length = k := by simp [patL]
theorem pat_byte (j : Nat) : (UInt8.ofNat (pat j)).toNat = pat j := by
  have := (pat_good j).1
  simp; omega
theorem patL_all (k : Nat) : ∀ x ∈ patL k, nmB (x.toNat : Int) = true := by
  intro x hx
  simp only [patL, List.mem_map] at hx
  obtain ⟨j, _, rfl⟩ := hx
  rw [pat_byte]; exact (pat_good j).2
theorem row_pat {k : Nat} {xs : List Value} (hl : xs.length = k) (h : ∀ i, i < k → xs[i]? = some (.int .u8 (pat i : Int))) : xs = (patL k).map fun x => Value.int .u8 (x.toNat : Int) := by
  refine List.ext_getElem? fun i => ?_
  rw [List.getElem?_map]
  by_cases hi : i < k
  · rw [h i hi, List.getElem?_eq_getElem (by rw [patL_len]; exact hi)]
    simp only [patL, List.getElem_map, List.getElem_range, Option.map_some, pat_byte]
  · rw [List.getElem?_eq_none (by omega), List.getElem?_eq_none (by rw [patL_len]; omega)]; rfl
theorem all_set {l : List UInt8} {z : UInt8} : ∀ {J : Nat}, J < l.length → (∀ x ∈ l, nmB (x.toNat : Int) = true) → ((l.set J z).all fun x => nmB (x.toNat : Int)) = nmB (z.toNat : Int) := by
  induction l with
  | nil => intro J h; simp at h
  | cons a l ih =>
    intro J h ha
    cases J with
    | zero =>
      have : (l.all fun x => nmB (x.toNat : Int)) = true := List.all_eq_true.2 fun x hx => ha x (List.mem_cons_of_mem _ hx)
      simp only [List.set_cons_zero, List.all_cons, this, Bool.and_true]
    | succ J =>
      simp only [List.set_cons_succ, List.all_cons, ha a (List.mem_cons_self ..), Bool.true_and]
      exact ih (by simpa using h) fun x hx => ha x (List.mem_cons_of_mem _ hx)
theorem nm_pat (k : Nat) : nmOk ⟨(patL k).toArray⟩ = (decide (1 ≤ k) && decide (k ≤ 64)) := by
  have h : ((patL k).all fun x => nmB (x.toNat : Int)) = true := List.all_eq_true.2 (patL_all k)
  have e : (⟨(patL k).toArray⟩ : ByteArray).size = k := (List.size_toArray ..).trans (patL_len k)
  unfold nmOk
  rw [e]
  show (_ && _ && ((patL k).toArray.toList.all fun x => nmB (x.toNat : Int))) = _
  simp only [h, Bool.and_true]
theorem nm_set {k J : Nat} (z : UInt8) (hJ : J < k) : nmOk ⟨((patL k).set J z).toArray⟩ = (nmB (z.toNat : Int) && decide (k ≤ 64)) := by
  have h := all_set (z := z) (J := J) (by rw [patL_len]; exact hJ) (patL_all k)
  have e : (⟨((patL k).set J z).toArray⟩ : ByteArray).size = k := (List.size_toArray ..).trans (by rw [List.length_set, patL_len])
  unfold nmOk
  rw [e]
  show (_ && _ && (((patL k).set J z).toArray.toList.all fun x => nmB (x.toNat : Int))) = _
  have h1 : decide (1 ≤ k) = true := by simp; omega
  simp only [h, h1, Bool.true_and]
  exact Bool.and_comm _ _

theorem Tryz.infoB : (Tryz.prog.info? 5).map (fun i => (i.zero, i.size, i.bytes)) = some (some (.int .u8 0), 1, 1) := by kernel_rfl
theorem make_bytes (k : Nat) (hk : k ≤ 70) : ∃ cs : Array Value, cs.size = k ∧ ∀ W : World, (Instr.makeSlice 58 (.int .i64 (k : Int)) (.int .i64 (k : Int))).run Tryz.prog W = .ok (.slice (some ⟨W.heap.size, 0, none⟩) k k) (W.alloc (.cells cs 5)) := by
  obtain ⟨i, hi, hz⟩ := Option.map_eq_some_iff.1 Tryz.infoB
  simp only [Prod.mk.injEq] at hz
  obtain ⟨hz0, hz1, hz2⟩ := hz
  refine ⟨madeCells (Value.int .u8 0).cells (k * i.size), by rw [size_madeCells, hz1]; omega, fun W => ?_⟩
  have h := run_makeSlice W (P := Tryz.prog) 58 5 i (.int .u8 0) Tryz.underlying58 hi hz0 .i64 .i64 (k : Int) (k : Int) (by omega) (Int.le_refl _) (by rw [hz1]; omega) (by rw [hz2]; omega) (by omega)
  simpa using h
theorem rowM_new (w : World) (base k : Nat) (cs : Array Value) (hb : base ≤ w.heap.size) (hk : k ≤ 70) (hc : cs.size = k) : RowM (w.alloc (.cells cs 5)) base 5 w.heap.size k cs.toList :=
  ⟨cs, (0, 0), hb, World.alloc_heap_new w _, Or.inl rfl, by simp; omega, by unfold maxLen; omega, hc, by rw [List.take_of_length_le (by simp)]⟩


/-- The row behind some rounds. -/
def Row (w0 W : World) (g k j : Nat) (xs : List Value) : Prop := RowM W w0.heap.size 5 g k xs ∧ xs.length = k ∧ (∀ i, i < j → xs[i]? = some (.int .u8 (pat i : Int))) ∧ Below w0.heap.size w0 W
theorem row_step {w0 W : World} {g k j : Nat} {xs : List Value} {c : Nat} (h : Row w0 W g k j xs) (hj : j < k) (hc : pat j = c) : Row w0 (W.setCell ⟨g, j, none⟩ (.int .u8 (c : Int))) g k (j + 1) (xs.set j (.int .u8 (c : Int))) := by
  obtain ⟨h1, h2, h3, h4⟩ := h
  refine ⟨h1.set j _, by rw [List.length_set]; exact h2, fun i hi => ?_, h4.setCell (p := ⟨g, j, none⟩) h1.lt.1 _⟩
  by_cases he : i = j
  · subst he; rw [List.getElem?_set_self (by omega), hc]
  · rw [List.getElem?_set_ne (by omega)]; exact h3 i (by omega)

set_option maxRecDepth 100000 in
set_option maxHeartbeats 8000000 in
theorem walk_X (n a : Nat) (X : Int) (z : UInt8) (b : Addr) (w : World) (hg : Gv b w) (hge : Ge w) (hn : n < 256) (ha : a < 256) (hX : X = (z.toNat : Int)) :
    Calls Tryz.prog 8 #[.int .u8 (n : Int), .int .u8 (a : Int), .int .u8 X] w fun e w' => e = .returned (.bool true) ∧ Below w.heap.size w w' := by
  have HG := Lib.hid hg
  have HE := Lib.hid hge
  clear hg hge
  obtain ⟨k, hk⟩ : ∃ k, n % 70 = k := ⟨_, rfl⟩
  have hk70 : k < 70 := by omega
  have e1 : (n : Int) % 70 = (k : Int) := by omega
  have e2 : (n : Int).tmod 70 = (k : Int) := by rw [Int.tmod_eq_emod_of_nonneg (by omega)]; omega
  have e3 : IntKind.i64.wrap (k : Int) = (k : Int) := by rw [IntKind.wrap_i64]; omega
  have e4 : IntKind.u8.wrap (k : Int) = (k : Int) := by simp [IntKind.wrap, IntKind.signed, IntKind.bits]; omega
  obtain ⟨cs, hcs, hmk⟩ := make_bytes k (by omega)
  have HCS := Lib.hid hcs
  have HA := Lib.hid ha
  have HX := Lib.hid hX
  clear hcs hk hn ha hX
  go_enter Tryz.func8, Tryz.ntmps8
  go_wp2_with fail
  refine (ck_examples b _ HG.out HE.out).mono ?_
  rintro e w1 ⟨rfl, hb⟩
  have HB1 := Lib.hid hb
  clear hb
  go_wp2_with fail
  clear hmk
  obtain ⟨g, hgg⟩ : ∃ g, w1.heap.size = g := ⟨_, rfl⟩
  have HR0 := Lib.hid (rowM_new w1 w.heap.size k cs HB1.out.size (by omega) HCS.out)
  have HBA := Lib.hid (HB1.out.alloc HB1.out.size (.cells cs 5))
  have HLC := Lib.hid (show cs.toList.length = k by rw [Array.length_toList]; exact HCS.out)
  rw [hgg] at HR0 ⊢
  obtain ⟨W0, hW0⟩ : ∃ W0, w1.alloc (.cells cs 5) = W0 := ⟨_, rfl⟩
  rw [hW0] at HR0 HBA ⊢
  clear hW0 hgg
  go_loopw [10] (fun i wr => ∃ (j : Nat) (xs : List Value), j ≤ k ∧ i = .int .i64 j ∧ Row w wr g k j xs) (fun i _ => k - (intOf i).toNat)
  case atStart => exact ⟨0, cs.toList, Nat.zero_le _, rfl, HR0.out, HLC.out, fun i hi => absurd hi (Nat.not_lt_zero i), HBA.out⟩
  case round =>
    obtain ⟨j, xs, hjk, rfl, hrow⟩ := hrel
    have HROW := Lib.hid hrow
    clear hrow
    by_cases hlt : j < k
    · obtain ⟨u, hu⟩ : ∃ u, xs[j]? = some u := ⟨_, List.getElem?_eq_getElem (by have := HROW.out.2.1; omega)⟩
      have hcl := HROW.out.1.cell hu
      have hfr := HROW.out.1.free (j := j) (by have := HROW.out.2.1; omega)
      have i1 : (j : Int) < (k : Int) := by omega
      have i2 : (0 : Int) ≤ (j : Int) := by omega
      clear hu
      rcases mod13 j with hr | hr | hr | hr | hr | hr | hr | hr | hr | hr | hr | hr | hr
      · have hm1 : (j : Int) % 13 = 0 := by omega
        have hm2 : (j : Int).tmod 13 = 0 := by rw [Int.tmod_eq_emod_of_nonneg (by omega)]; omega
        have HP := Lib.hid (pat_of hr)
        clear hr
        go_wp2_with fail
        go_roundw
        case rel => exact ⟨j + 1, _, by omega, by go_num, row_step HROW.out hlt HP.out⟩
        case measure => simp [intOf]; omega
      · have hm1 : (j : Int) % 13 = 1 := by omega
        have hm2 : (j : Int).tmod 13 = 1 := by rw [Int.tmod_eq_emod_of_nonneg (by omega)]; omega
        have HP := Lib.hid (pat_of hr)
        clear hr
        go_wp2_with fail
        go_roundw
        case rel => exact ⟨j + 1, _, by omega, by go_num, row_step HROW.out hlt HP.out⟩
        case measure => simp [intOf]; omega
      · have hm1 : (j : Int) % 13 = 2 := by omega
        have hm2 : (j : Int).tmod 13 = 2 := by rw [Int.tmod_eq_emod_of_nonneg (by omega)]; omega
        have HP := Lib.hid (pat_of hr)
        clear hr
        go_wp2_with fail
        go_roundw
        case rel => exact ⟨j + 1, _, by omega, by go_num, row_step HROW.out hlt HP.out⟩
        case measure => simp [intOf]; omega
      · have hm1 : (j : Int) % 13 = 3 := by omega
        have hm2 : (j : Int).tmod 13 = 3 := by rw [Int.tmod_eq_emod_of_nonneg (by omega)]; omega
        have HP := Lib.hid (pat_of hr)
        clear hr
        go_wp2_with fail
        go_roundw
        case rel => exact ⟨j + 1, _, by omega, by go_num, row_step HROW.out hlt HP.out⟩
        case measure => simp [intOf]; omega
      · have hm1 : (j : Int) % 13 = 4 := by omega
        have hm2 : (j : Int).tmod 13 = 4 := by rw [Int.tmod_eq_emod_of_nonneg (by omega)]; omega
        have HP := Lib.hid (pat_of hr)
        clear hr
        go_wp2_with fail
        go_roundw
        case rel => exact ⟨j + 1, _, by omega, by go_num, row_step HROW.out hlt HP.out⟩
        case measure => simp [intOf]; omega
      · have hm1 : (j : Int) % 13 = 5 := by omega
        have hm2 : (j : Int).tmod 13 = 5 := by rw [Int.tmod_eq_emod_of_nonneg (by omega)]; omega
        have HP := Lib.hid (pat_of hr)
        clear hr
        go_wp2_with fail
        go_roundw
        case rel => exact ⟨j + 1, _, by omega, by go_num, row_step HROW.out hlt HP.out⟩
        case measure => simp [intOf]; omega
      · have hm1 : (j : Int) % 13 = 6 := by omega
        have hm2 : (j : Int).tmod 13 = 6 := by rw [Int.tmod_eq_emod_of_nonneg (by omega)]; omega
        have HP := Lib.hid (pat_of hr)
        clear hr
        go_wp2_with fail
        go_roundw
        case rel => exact ⟨j + 1, _, by omega, by go_num, row_step HROW.out hlt HP.out⟩
        case measure => simp [intOf]; omega
      · have hm1 : (j : Int) % 13 = 7 := by omega
        have hm2 : (j : Int).tmod 13 = 7 := by rw [Int.tmod_eq_emod_of_nonneg (by omega)]; omega
        have HP := Lib.hid (pat_of hr)
        clear hr
        go_wp2_with fail
        go_roundw
        case rel => exact ⟨j + 1, _, by omega, by go_num, row_step HROW.out hlt HP.out⟩
        case measure => simp [intOf]; omega
      · have hm1 : (j : Int) % 13 = 8 := by omega
        have hm2 : (j : Int).tmod 13 = 8 := by rw [Int.tmod_eq_emod_of_nonneg (by omega)]; omega
        have HP := Lib.hid (pat_of hr)
        clear hr
        go_wp2_with fail
        go_roundw
        case rel => exact ⟨j + 1, _, by omega, by go_num, row_step HROW.out hlt HP.out⟩
        case measure => simp [intOf]; omega
      · have hm1 : (j : Int) % 13 = 9 := by omega
        have hm2 : (j : Int).tmod 13 = 9 := by rw [Int.tmod_eq_emod_of_nonneg (by omega)]; omega
        have HP := Lib.hid (pat_of hr)
        clear hr
        go_wp2_with fail
        go_roundw
        case rel => exact ⟨j + 1, _, by omega, by go_num, row_step HROW.out hlt HP.out⟩
        case measure => simp [intOf]; omega
      · have hm1 : (j : Int) % 13 = 10 := by omega
        have hm2 : (j : Int).tmod 13 = 10 := by rw [Int.tmod_eq_emod_of_nonneg (by omega)]; omega
        have HP := Lib.hid (pat_of hr)
        clear hr
        go_wp2_with fail
        go_roundw
        case rel => exact ⟨j + 1, _, by omega, by go_num, row_step HROW.out hlt HP.out⟩
        case measure => simp [intOf]; omega
      · have hm1 : (j : Int) % 13 = 11 := by omega
        have hm2 : (j : Int).tmod 13 = 11 := by rw [Int.tmod_eq_emod_of_nonneg (by omega)]; omega
        have HP := Lib.hid (pat_of hr)
        clear hr
        go_wp2_with fail
        go_roundw
        case rel => exact ⟨j + 1, _, by omega, by go_num, row_step HROW.out hlt HP.out⟩
        case measure => simp [intOf]; omega
      · have hm1 : (j : Int) % 13 = 12 := by omega
        have hm2 : (j : Int).tmod 13 = 12 := by rw [Int.tmod_eq_emod_of_nonneg (by omega)]; omega
        have HP := Lib.hid (pat_of hr)
        clear hr
        go_wp2_with fail
        go_roundw
        case rel => exact ⟨j + 1, _, by omega, by go_num, row_step HROW.out hlt HP.out⟩
        case measure => simp [intOf]; omega
    · obtain rfl : j = k := by omega
      have hxs := row_pat HROW.out.2.1 HROW.out.2.2.1
      obtain ⟨hrm, hln, _, hbw⟩ := HROW.out
      rw [hxs] at hrm
      have HRM := Lib.hid hrm
      have HBW := Lib.hid hbw
      have hcv := rowM_text (P := Tryz.prog) (dst := 9) Tryz.underlying58 Tryz.underlying5 Tryz.underlying9 hrm (patL_len j)
      clear hxs hrm hbw hln
      have HN1 := Lib.hid (nm_pat j)
      have HZ := Lib.hid (show nmB X = nmB (z.toNat : Int) by rw [HX.out])
      obtain ⟨M, hM⟩ : ∃ M, nmB X = M := ⟨_, rfl⟩
      have HM := Lib.hid hM
      clear hM
      obtain ⟨P, hP⟩ : ∃ P, nmOk ⟨(patL j).toArray⟩ = P := ⟨_, rfl⟩
      have HPP := Lib.hid hP
      clear hP
      go_upto_region 11 with (go_at_call 11; refine (name_any _ _).mono ?_; rintro e w' ⟨rfl, rfl⟩)
      rw [HPP.out]
      go_cut [12] (fun m wx => m = .bool M ∧ wx = wr)
      case first =>
        by_cases g1 : X = 45 ∨ X = 46 ∨ X = 47
        · have HG := Lib.hid (show M = true by rw [← HM.out]; rcases g1 with rfl | rfl | rfl <;> rfl)
          clear HX HZ HM
          rcases g1 with rfl | rfl | rfl
          all_goals
            go_wp2_with fail
            go_meet
            exact ⟨by rw [HG.out], rfl⟩
        · have q1 : (X == 45) = false := by simp; omega
          have q2 : (X == 46) = false := by simp; omega
          have q3 : (X == 47) = false := by simp; omega
          obtain ⟨A, qa⟩ : ∃ A, decide (97 ≤ X) = A := ⟨_, rfl⟩
          obtain ⟨B, qb⟩ : ∃ B, decide (X ≤ 122) = B := ⟨_, rfl⟩
          obtain ⟨C, qc⟩ : ∃ C, decide (48 ≤ X) = C := ⟨_, rfl⟩
          obtain ⟨D, qd⟩ : ∃ D, decide (X ≤ 57) = D := ⟨_, rfl⟩
          have HG := Lib.hid (show M = (A && B || C && D) by rw [← HM.out]; simp only [nmB, q1, q2, q3, qa, qb, qc, qd, Bool.false_or])
          clear g1
          cases A <;> cases B <;> cases C <;> cases D
          all_goals
            go_wp2_with fail
            go_meet
            exact ⟨by rw [HG.out]; rfl, rfl⟩
      case rest =>
        obtain ⟨rfl, rfl⟩ := hcut
        by_cases hj0 : j = 0
        · have hq : ((j : Int) == 0) = true := by simp; omega
          have hP : P = false := by rw [← HPP.out, HN1.out]; simp; omega
          clear hj0
          subst hP
          go_wp2_with fail
          go_ret
          exact ⟨rfl, HBW.out⟩
        · have hq : ((j : Int) == 0) = false := by simp; omega
          obtain ⟨J, hJ⟩ : ∃ J, a % j = J := ⟨_, rfl⟩
          have hJj : J < j := by rw [← hJ]; exact Nat.mod_lt _ (by omega)
          have m1 : (a : Int) % (j : Int) = (J : Int) := by rw [← hJ]; rfl
          have m2 : (a : Int).tmod (j : Int) = (J : Int) := by rw [Int.tmod_eq_emod_of_nonneg (by omega)]; exact m1
          have m3 : (J : Int) < (j : Int) := by omega
          have m4 : (0 : Int) ≤ (J : Int) := by omega
          have m5 : IntKind.i64.wrap (a : Int) = (a : Int) := by have := HA.out; rw [IntKind.wrap_i64]; omega
          obtain ⟨y, hy⟩ : ∃ y, (patL j)[J]? = some y := ⟨_, List.getElem?_eq_getElem (by rw [patL_len]; exact hJj)⟩
          have hcl := HRM.out.cell (j := J) (u := .int .u8 (y.toNat : Int)) (by rw [List.getElem?_map, hy]; rfl)
          have hfr := HRM.out.free (j := J) (by rw [List.length_map, patL_len]; exact hJj)
          have hr2 := HRM.out.set J (.int .u8 X)
          have hset : ((patL j).map fun x => Value.int .u8 (x.toNat : Int)).set J (.int .u8 X) = ((patL j).set J z).map fun x => Value.int .u8 (x.toNat : Int) := by rw [List.map_set, HX.out]
          rw [hset] at hr2
          have hc2 := rowM_text (P := Tryz.prog) (dst := 9) (n := j) Tryz.underlying58 Tryz.underlying5 Tryz.underlying9 hr2 (by rw [List.length_set, patL_len])
          have HBS := Lib.hid (HBW.out.setCell (p := ⟨g, J, none⟩) HRM.out.lt.1 (.int .u8 X))
          have HN2 := Lib.hid (nm_set (k := j) (J := J) z hJj)
          clear hset hr2 hy hJ
          by_cases h64 : j ≤ 64
          · have hP : P = true := by rw [← HPP.out, HN1.out]; simp; omega
            have HK := Lib.hid (show (nmB (z.toNat : Int) && decide (j ≤ 64)) = M by rw [← HZ.out, HM.out]; simp [h64])
            subst hP
            have hk1 : (j : Int) ≤ 64 := by omega
            have hk2 : decide ((j : Int) ≤ 64) = true := by simp; omega
            go_wp2_with fail
            refine (name_any _ _).mono ?_
            rintro e w' ⟨rfl, rfl⟩
            rw [HN2.out, HK.out]
            cases M
            all_goals
              go_wp2_with fail
              go_ret
              exact ⟨rfl, HBS.out⟩
          · have hP : P = false := by rw [← HPP.out, HN1.out]; simp; omega
            have HK := Lib.hid (show (nmB (z.toNat : Int) && decide (j ≤ 64)) = false by simp [h64])
            subst hP
            have hk1 : 64 < (j : Int) := by omega
            have hk2 : decide ((j : Int) ≤ 64) = false := by simp; omega
            go_wp2_with fail
            refine (name_any _ _).mono ?_
            rintro e w' ⟨rfl, rfl⟩
            rw [HN2.out, HK.out]
            cases M
            all_goals
              go_wp2_with fail
              go_ret
              exact ⟨rfl, HBS.out⟩
theorem walk (n a z : Nat) (b : Addr) (w : World) (hg : Gv b w) (hge : Ge w) (hn : n < 256) (ha : a < 256) (hz : z < 256) :
    Calls Tryz.prog 8 #[.int .u8 (n : Int), .int .u8 (a : Int), .int .u8 (z : Int)] w fun e w' => e = .returned (.bool true) ∧ Below w.heap.size w w' :=
  walk_X n a (z : Int) (UInt8.ofNat z) b w hg hge hn ha (by simp; omega)
end Go.Proofs.YtngceccpebdgmaaGreatDoor.ckNames
