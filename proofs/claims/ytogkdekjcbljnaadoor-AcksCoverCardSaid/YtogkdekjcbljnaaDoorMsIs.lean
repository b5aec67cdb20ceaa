/- message: errors.Is over its faults; need, first. -/
import Derived.Test.YtogkdekjcbljnaaDoorIs
import Derived.Stop.Asserts
import Derived.Stop.IfaceNil
namespace Go.Proofs.YtogkdekjcbljnaaDoor
open Go.RowKit Go.Extern.Stop Go.Stop Go.Extern

theorem Tryd.noIsM (v : Value) (xT : TypeId) (w : World) : (Instr.typeAssert (.iface 135 v) xT 126 true).run Tryd.prog w = .ok (.tuple #[.nilIface, .bool false]) w := run_typeAssert_lacksB Tryd.underlying126 (by kernel_rfl) (by kernel_rfl) v xT w
theorem Tryd.hasUnwrapM (v : Value) (xT : TypeId) (w : World) : (Instr.typeAssert (.iface 135 v) xT 129 true).run Tryd.prog w = .ok (.tuple #[.iface 135 v, .bool true]) w := run_typeAssert_hasB Tryd.underlying129 (by kernel_rfl) v xT w

theorem Tryd.methodUnwrapM (n : Nat) (v : Value) (w : World) : (Go.method (n + 1) 135 v "Unwrap").run Tryd.prog w = .ok (117, v) w := by kernel_rfl

set_option maxRecDepth 100000 in
theorem mis_in1 (k0 : Int) (b : Addr) (w : World) :
    Calls Tryd.prog 41 #[.iface 135 (.agg #[.int .i64 k0, .iface 161 (.pointer (some b))]), .iface 161 (.pointer (some b)), .bool true] w fun e w' => e = .returned (.bool true) ∧ Below w.heap.size w w' := by
  obtain ⟨i, hi, hcmp⟩ := Option.map_eq_some_iff.1 Tryd.isComp
  obtain ⟨j, hj, hjs⟩ := Option.map_eq_some_iff.1 Tryd.isSize
  have nW := Tryd.noIsM
  have uW := Tryd.hasUnwrapM
  have mU := Tryd.methodUnwrapM
  have heq := fun w => run_eql_iface_ptr_same (P := Tryd.prog) w b Tryd.underlying74 Tryd.underlying161 hi hcmp hj
  have hty0 := fun w => run_eql_iface_types (P := Tryd.prog) 135 161 (.agg #[.int .i64 k0, .iface 161 (.pointer (some b))]) (.pointer (some b)) Tryd.underlying74 (by decide) w
  go_enter Tryd.func41, Tryd.ntmps41
  go_wp2
  refine wp_loop_rounds 2 ?_
  rw [rounds_succ]
  go_wp2
  rw [rounds_succ]
  go_wp2
  go_ret
  exact ⟨rfl, (Below.refl _ _).alloc (Nat.le_refl _) _⟩

set_option maxRecDepth 100000 in
theorem mis_chain1 (k0 : Int) (b : Addr) (w : World) :
    Calls Tryd.prog 26 #[.iface 135 (.agg #[.int .i64 k0, .iface 161 (.pointer (some b))]), .iface 161 (.pointer (some b))] w fun e w' => e = .returned (.bool true) ∧ Below w.heap.size w w' := by
  have h8 := Tryd.callTypeOf
  have h32 := Tryd.callComparable
  have hif := Tryd.ifaceErr
  have mR := Tryd.methodComp
  go_enter Tryd.func26, Tryd.ntmps26
  go_wp2_with (go_at_call 41; refine (mis_in1 k0 b _).mono ?_; rintro e w' ⟨rfl, hb⟩)
  go_ret
  exact ⟨rfl, hb⟩

set_option maxRecDepth 100000 in
theorem mis_in2 (k0 k1 : Int) (b : Addr) (w : World) :
    Calls Tryd.prog 41 #[.iface 135 (.agg #[.int .i64 k0, .iface 135 (.agg #[.int .i64 k1, .iface 161 (.pointer (some b))])]), .iface 161 (.pointer (some b)), .bool true] w fun e w' => e = .returned (.bool true) ∧ Below w.heap.size w w' := by
  obtain ⟨i, hi, hcmp⟩ := Option.map_eq_some_iff.1 Tryd.isComp
  obtain ⟨j, hj, hjs⟩ := Option.map_eq_some_iff.1 Tryd.isSize
  have nW := Tryd.noIsM
  have uW := Tryd.hasUnwrapM
  have mU := Tryd.methodUnwrapM
  have heq := fun w => run_eql_iface_ptr_same (P := Tryd.prog) w b Tryd.underlying74 Tryd.underlying161 hi hcmp hj
  have hty0 := fun w => run_eql_iface_types (P := Tryd.prog) 135 161 (.agg #[.int .i64 k0, .iface 135 (.agg #[.int .i64 k1, .iface 161 (.pointer (some b))])]) (.pointer (some b)) Tryd.underlying74 (by decide) w
  have hty1 := fun w => run_eql_iface_types (P := Tryd.prog) 135 161 (.agg #[.int .i64 k1, .iface 161 (.pointer (some b))]) (.pointer (some b)) Tryd.underlying74 (by decide) w
  go_enter Tryd.func41, Tryd.ntmps41
  go_wp2
  refine wp_loop_rounds 3 ?_
  rw [rounds_succ]
  go_wp2
  rw [rounds_succ]
  go_wp2
  rw [rounds_succ]
  go_wp2
  go_ret
  exact ⟨rfl, ((Below.refl _ _).alloc (Nat.le_refl _) _).alloc (by simp <;> omega) _⟩

set_option maxRecDepth 100000 in
theorem mis_chain2 (k0 k1 : Int) (b : Addr) (w : World) :
    Calls Tryd.prog 26 #[.iface 135 (.agg #[.int .i64 k0, .iface 135 (.agg #[.int .i64 k1, .iface 161 (.pointer (some b))])]), .iface 161 (.pointer (some b))] w fun e w' => e = .returned (.bool true) ∧ Below w.heap.size w w' := by
  have h8 := Tryd.callTypeOf
  have h32 := Tryd.callComparable
  have hif := Tryd.ifaceErr
  have mR := Tryd.methodComp
  go_enter Tryd.func26, Tryd.ntmps26
  go_wp2_with (go_at_call 41; refine (mis_in2 k0 k1 b _).mono ?_; rintro e w' ⟨rfl, hb⟩)
  go_ret
  exact ⟨rfl, hb⟩

/-- The variable errNone holds the sentinel. -/
def Gn (b : Addr) (w : World) : Prop := w.cell? ⟨0, 0, none⟩ = some (Tryd.S b) ∧ 0 < w.heap.size
theorem Gn.below {b : Addr} {w w' : World} (h : Gn b w) (hb : Below w.heap.size w w') : Gn b w' :=
  ⟨(hb.cell (p := ⟨0, 0, none⟩) h.2).trans h.1, Nat.lt_of_lt_of_le h.2 hb.size⟩
theorem Gn.later {b : Addr} {w w' : World} (h : Gn b w) (hb : Below w.heap.size w w') : Gn b w' := h.below hb
theorem gn_base {B : Nat} {b : Addr} {w w' : World} (h : Gn b w) (hB : 0 < B) (hb : Below B w w') : Gn b w' := ⟨(hb.cell (p := ⟨0, 0, none⟩) hB).trans h.1, Nat.lt_of_lt_of_le h.2 hb.size⟩
/-- An error: the sentinel, within faults of these Nums. -/
def eV (b : Addr) : List Int → Value
  | [] => Tryd.S b
  | k :: l => .iface 135 (.agg #[.int .i64 k, eV b l])
/-- An error, or none. -/
def oV (b : Addr) : Option (List Int) → Value
  | none => .nilIface
  | some l => eV b l
theorem isE_any (b : Addr) (o : Option (List Int)) (w : World) (h : ∀ l, o = some l → l.length ≤ 2) :
    Calls Tryd.prog 26 #[oV b o, Tryd.S b] w fun e w' => e = .returned (.bool o.isSome) ∧ Below w.heap.size w w' := by
  match o, h with
  | none, _ =>
    refine (is_nil b w).mono ?_
    rintro e w' ⟨rfl, rfl⟩
    exact ⟨rfl, Below.refl _ _⟩
  | some [], _ =>
    refine (is_self b w).mono ?_
    rintro e w' ⟨rfl, h⟩
    exact ⟨rfl, by first | exact h | (subst h; exact Below.refl _ _) | (rw [h]; exact Below.refl _ _)⟩
  | some [k], _ => exact mis_chain1 k b w
  | some [k, j], _ => exact mis_chain2 k j b w
  | some (_ :: _ :: _ :: _), h => have := h _ rfl; simp at this
/-- What need answers. -/
def needO (num : Int) (B : Bool) : Option (List Int) := if B then none else some [num]
theorem need_any (num : Int) (B : Bool) (b : Addr) (w : World) (hg : Gn b w) : Calls Tryd.prog 43 #[.int .i64 num, .bool B] w fun e w' => e = .returned (oV b (needO num B)) ∧ Below w.heap.size w w' := by
  have h0 := hg.1
  cases B with
  | true =>
    go_enter Tryd.func43, Tryd.ntmps43
    go_wp2_with fail
    go_ret
    exact ⟨rfl, Below.refl _ _⟩
  | false =>
    go_enter Tryd.func43, Tryd.ntmps43
    go_wp2_with fail
    go_ret
    exact ⟨rfl, Below.refl _ _⟩
/-- The first error of a list. -/
def firstO : List (Option (List Int)) → Option (List Int)
  | [] => none
  | none :: r => firstO r
  | some l :: _ => some l
theorem firstO_take {os : List (Option (List Int))} {k : Nat} (hx : os[k]? = some none) (h0 : firstO (os.drop (k + 1)) = firstO (os.drop (k + 1))) : firstO (os.drop k) = firstO (os.drop (k + 1)) := by
  obtain ⟨hl, he⟩ := List.getElem?_eq_some_iff.1 hx
  rw [List.drop_eq_getElem_cons hl, he]; rfl
theorem firstO_here {os : List (Option (List Int))} {k : Nat} {l : List Int} (hx : os[k]? = some (some l)) : firstO (os.drop k) = some l := by
  obtain ⟨hl, he⟩ := List.getElem?_eq_some_iff.1 hx
  rw [List.drop_eq_getElem_cons hl, he]; rfl
set_option maxRecDepth 100000 in
theorem first_any (b : Addr) (R n : Nat) (os : List (Option (List Int))) (w : World) (hn : os.length = n) (hn2 : n ≤ 1000) (hc : ∀ (k : Nat) o, os[k]? = some o → w.cell? ⟨R, k, none⟩ = some (oV b o)) :
    Calls Tryd.prog 42 #[.slice (some ⟨R, 0, none⟩) n n] w fun e w' => e = .returned (oV b (firstO os)) ∧ Below w.heap.size w w' := by
  have H := Lib.hid (And.intro hc hn)
  clear hc hn
  go_enter Tryd.func42, Tryd.ntmps42
  go_wp2_with fail
  go_loopw [7] (fun i wr => ∃ k : Nat, k ≤ n ∧ i = .int .i64 k ∧ wr = w ∧ firstO os = firstO (os.drop k)) (fun i _ => n - (RowKit.intOf i).toNat)
  case atStart => exact ⟨0, Nat.zero_le _, rfl, rfl, rfl⟩
  case round =>
    obtain ⟨k, hk, rfl, rfl, hf⟩ := hrel
    have HF := Lib.hid hf
    clear hf
    by_cases hlt : k < n
    · obtain ⟨o, ho⟩ : ∃ o, os[k]? = some o := ⟨_, List.getElem?_eq_getElem (by have := H.out.2; omega)⟩
      have h := H.out.1 k o ho
      have b0 : (0 : Int) ≤ (k : Int) := by omega
      have b1 : (k : Int) < (n : Int) := by omega
      have HO := Lib.hid ho
      clear ho
      rcases o with _ | ⟨_ | ⟨j, l⟩⟩
      · have h' : wr.cell? ⟨R, k, none⟩ = some .nilIface := h
        clear h
        go_wp2_with fail
        go_roundw
        case rel => exact ⟨k + 1, by omega, by go_num, trivial, HF.out.trans (firstO_take HO.out rfl)⟩
        case measure => simp [RowKit.intOf]; omega
      · have h' : wr.cell? ⟨R, k, none⟩ = some (.iface 161 (.pointer (some b))) := h
        clear h
        go_wp2_with fail
        go_ret
        exact ⟨by rw [HF.out, firstO_here HO.out]; rfl, Below.refl _ _⟩
      · have h' : wr.cell? ⟨R, k, none⟩ = some (.iface 135 (.agg #[.int .i64 j, eV b l])) := h
        clear h
        go_wp2_with fail
        go_ret
        exact ⟨by rw [HF.out, firstO_here HO.out]; rfl, Below.refl _ _⟩
    · have b1 : ¬ (k : Int) < (n : Int) := by omega
      obtain rfl : k = n := by omega
      go_wp2_with fail
      go_ret
      refine ⟨?_, Below.refl _ _⟩
      rw [HF.out, List.drop_of_length_le (by have := H.out.2; omega)]; rfl
end Go.Proofs.YtogkdekjcbljnaaDoor
