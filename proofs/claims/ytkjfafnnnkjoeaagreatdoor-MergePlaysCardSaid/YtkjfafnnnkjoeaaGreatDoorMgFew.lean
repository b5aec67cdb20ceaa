/- client: names of a few, by bytes. -/
import Derived.Test.YtkjfafnnnkjoeaaGreatDoorNmFew
import Derived.Test.YtkjfafnnnkjoeaaGreatDoorNmHas
namespace Go.Proofs.YtkjfafnnnkjoeaaGreatDoor
open Go.RowKit Go.Lib

def sufT : List (List UInt8) := [[], [49], [47, 120]]
def nmC (b : Nat) : List UInt8 := if b % 16 = 15 then [42] else UInt8.ofNat (97 + b % 12) :: sufT.getD (b / 16 % 3) []
def nmcL (ms : List Nat) (m : Nat) : List (List UInt8) := (ms.take m).map nmC
theorem nmc_len (ms : List Nat) (m : Nat) : (nmcL ms m).length ≤ m := by unfold nmcL; rw [List.length_map, List.length_take]; omega
theorem nmC_len (b : Nat) : (nmC b).length ≤ 3 := by
  unfold nmC
  split
  · decide
  · have : (sufT.getD (b / 16 % 3) []).length ≤ 2 := by
      have h : b / 16 % 3 < 3 := Nat.mod_lt _ (by decide)
      match b / 16 % 3, h with
      | 0, _ | 1, _ | 2, _ => decide
      | k + 3, h => omega
    simp only [List.length_cons]; omega
theorem nmc_next {ms : List Nat} {k b m : Nat} (h : ms[k]? = some b) (hk : k < m) : nmcL (ms.take (k + 1)) m = nmcL (ms.take k) m ++ [nmC b] := by
  unfold nmcL
  rw [List.take_take, List.take_take, Nat.min_eq_right (by omega), Nat.min_eq_right (by omega), List.take_add_one, h, List.map_append]
  rfl
theorem nmc_all (ms : List Nat) {k m : Nat} (h : m ≤ k ∨ ms.length ≤ k) : nmcL (ms.take k) m = nmcL ms m := by
  unfold nmcL
  rw [List.take_take]
  rcases h with h | h
  · rw [Nat.min_eq_left h]
  · by_cases h2 : m ≤ k
    · rw [Nat.min_eq_left h2]
    · rw [Nat.min_eq_right (by omega), List.take_of_length_le h, List.take_of_length_le (by omega)]
set_option maxRecDepth 100000 in
set_option maxHeartbeats 2000000 in
theorem name_star {b : Nat} {w : World} (hb : b < 256) (h15 : b % 16 = 15) : Calls Tryz.prog 19 #[.int .u8 (b : Int)] w fun e w' => e = .returned (.string ⟨#[42]⟩) ∧ Below w.heap.size w w' := by
  have m1 : (b : Int).tmod 16 = 15 := by rw [Int.tmod_eq_emod_of_nonneg (by omega)]; omega
  have m2 : (b : Int) % 16 = 15 := by omega
  clear hb h15
  go_enter Tryz.func19, Tryz.ntmps19
  go_wp2_with fail
  go_ret
  exact ⟨rfl, Below.refl _ _⟩
/-- A text of bytes just laid is their string. -/
theorem byteS (j : Nat) (hj : j < 100) : (UInt8.ofNat (97 + j)).toNat = 97 + j := by simp; omega
def sufV : Array Value := #[.string ⟨#[]⟩, .string ⟨#[49]⟩, .string ⟨#[47, 120]⟩]
theorem suf_cell (κ : Nat) (h : κ < 3) : sufV[κ]? = some (encStr (sufT.getD κ [])) := by
  match κ with
  | 0 | 1 | 2 => rfl
  | κ + 3 => omega
theorem bytes_conv {g c : Nat} {cs : Array Value} {l : List UInt8} {W : World} (hc : cs.toList = l.map fun x => Value.int .u8 (x.toNat : Int)) (hg : Blk W g cs 5) :
    (convert 34 9 (.slice (some ⟨g, 0, none⟩) l.length c)).run Tryz.prog W = .ok (.string ⟨l.toArray⟩) W := by
  refine run_convert_bytes_back W _ _ 5 ⟨g, 0, none⟩ c l Tryz.underlying34 Tryz.underlying5 Tryz.underlying9 fun j hj => ?_
  have e : (⟨g, 0, none⟩ : Addr).add j = ⟨g, j, none⟩ := by unfold Addr.add; split <;> simp_all
  rw [e, hg.cell j, ← Array.getElem?_toList, hc, List.getElem?_map, List.getElem?_eq_getElem hj]; rfl
set_option maxRecDepth 100000 in
set_option maxHeartbeats 4000000 in
theorem name_other {b : Nat} {w : World} (hb : b < 256) (h15 : ¬ b % 16 = 15) : Calls Tryz.prog 19 #[.int .u8 (b : Int)] w fun e w' => e = .returned (.string ⟨(nmC b).toArray⟩) ∧ Below w.heap.size w w' := by
  obtain ⟨κ, hκ⟩ : ∃ κ, b % 16 = κ := ⟨_, rfl⟩
  have hk15 : ¬ (κ : Int) = 15 := by omega
  have m1 : (b : Int).tmod 16 = (κ : Int) := by rw [Int.tmod_eq_emod_of_nonneg (by omega)]; omega
  have m2 : (b : Int) % 16 = (κ : Int) := by omega
  obtain ⟨r, hr⟩ : ∃ r, b % 12 = r := ⟨_, rfl⟩
  obtain ⟨q, hq⟩ : ∃ q, b / 16 = q := ⟨_, rfl⟩
  obtain ⟨z, hz⟩ : ∃ z, q % 3 = z := ⟨_, rfl⟩
  have r100 : r < 100 := by omega
  obtain ⟨D, hD⟩ : ∃ D, 97 + r = D := ⟨_, rfl⟩
  have z3 : z < 3 := by omega
  have e1 : (b : Int).tmod 12 = (r : Int) := by rw [Int.tmod_eq_emod_of_nonneg (by omega)]; omega
  have e1' : (b : Int) % 12 = (r : Int) := by omega
  have e2 : IntKind.u8.wrap (97 + (r : Int)) = (D : Int) := by rw [show IntKind.u8.wrap (97 + (r : Int)) = (97 + (r : Int)) % 256 from rfl]; omega
  have e3 : (b : Int).tdiv 16 = (q : Int) := by rw [Int.tdiv_eq_ediv_of_nonneg (by omega)]; omega
  have e3' : (b : Int) / 16 = (q : Int) := by omega
  have e4 : (q : Int).tmod 3 = (z : Int) := by rw [Int.tmod_eq_emod_of_nonneg (by omega)]; omega
  have e4' : (q : Int) % 3 = (z : Int) := by omega
  have g1 : IntKind.u8.wrap (r : Int) = (r : Int) := by rw [show IntKind.u8.wrap (r : Int) = (r : Int) % 256 from rfl]; omega
  have g2 : IntKind.u8.wrap (q : Int) = (q : Int) := by rw [show IntKind.u8.wrap (q : Int) = (q : Int) % 256 from rfl]; omega
  have g3 : IntKind.u8.wrap (z : Int) = (z : Int) := by rw [show IntKind.u8.wrap (z : Int) = (z : Int) % 256 from rfl]; omega
  have b0 : (0 : Int) ≤ (z : Int) := by omega
  have b3 : (z : Int) < 3 := by omega
  obtain ⟨x, hxx⟩ : ∃ x, sufT.getD z [] = x := ⟨_, rfl⟩
  have hxn : ¬ 9223372036854775807 < 1 + x.length := by
    have h2 : x.length ≤ 2 := by
      rw [← hxx]
      match z, z3 with
      | 0, _ | 1, _ | 2, _ => decide
      | z + 3, h => omega
    omega
  obtain ⟨u, hu, hul⟩ : ∃ u : UInt8, UInt8.ofNat (97 + r) = u ∧ u.toNat = D := ⟨_, rfl, (byteS r r100).trans hD⟩
  have HN := Lib.hid (show nmC b = u :: x by unfold nmC; rw [if_neg h15, hr, hq, hz, hxx, hu])
  have hcat : ({ data := #[u] } : ByteArray) ++ { data := x.toArray } = { data := (u :: x).toArray } := by
    apply ByteArray.ext; simp
  have LOW : Below w.heap.size w w := Below.refl _ _
  clear hκ hr hq hz h15 hb hu hD r100
  go_enter Tryz.func19, Tryz.ntmps19
  go_wp2_with fail
  have HO := Lib.hid (show (fun (A : Array Oper) => A[0]? = some { dst := some 6, op := Op.move (Operand.tmp 0), type := 5, pos := "law.go:17", after := #[], guard := none } ∧ A[1]? = some { dst := some 7, op := Op.binOp BinOp.rem 5 (Operand.tmp 6) (Operand.const (Value.int IntKind.u8 12)) 5, type := 5, pos := "law.go:17", after := #[{ on := 0, ground := Ground.data }], guard := none } ∧ A[2]? = some { dst := some 8, op := Op.binOp BinOp.add 5 (Operand.const (Value.int IntKind.u8 97)) (Operand.tmp 7) 5, type := 5, pos := "law.go:17", after := #[{ on := 1, ground := Ground.data }], guard := none } ∧ A[3]? = some { dst := some 9, op := Op.buildSlice 34 1 #[(0, Operand.tmp 8)], type := 34, pos := "law.go:17", after := #[{ on := 2, ground := Ground.data }], guard := none } ∧ A[4]? = some { dst := some 10, op := Op.convert 34 9 (Operand.tmp 9), type := 9, pos := "law.go:17", after := #[{ on := 3, ground := Ground.data }], guard := none } ∧ A[5]? = some { dst := some 11, op := Op.buildSlice 27 3 #[(0, Operand.const (Value.string { data := #[] })), (1, Operand.const (Value.string { data := #[49] })), (2, Operand.const (Value.string { data := #[47, 120] }))], type := 27, pos := "law.go:17", after := #[], guard := none } ∧ A[6]? = some { dst := some 12, op := Op.move (Operand.tmp 0), type := 5, pos := "law.go:17", after := #[], guard := none } ∧ A[7]? = some { dst := some 13, op := Op.binOp BinOp.quo 5 (Operand.tmp 12) (Operand.const (Value.int IntKind.u8 16)) 5, type := 5, pos := "law.go:17", after := #[{ on := 6, ground := Ground.data }], guard := none } ∧ A[8]? = some { dst := some 14, op := Op.binOp BinOp.rem 5 (Operand.tmp 13) (Operand.const (Value.int IntKind.u8 3)) 5, type := 5, pos := "law.go:17", after := #[{ on := 7, ground := Ground.data }], guard := none } ∧ A[9]? = some { dst := some 15, op := Op.indexAddr 27 (Operand.tmp 11) (Operand.tmp 14), type := 0, pos := "law.go:17", after := #[{ on := 5, ground := Ground.data }, { on := 8, ground := Ground.data }], guard := none } ∧ A[10]? = some { dst := some 16, op := Op.load 9 (Operand.tmp 15), type := 9, pos := "law.go:17", after := #[{ on := 9, ground := Ground.data }], guard := none } ∧ A[11]? = some { dst := some 17, op := Op.binOp BinOp.add 9 (Operand.tmp 10) (Operand.tmp 16) 9, type := 9, pos := "law.go:17", after := #[{ on := 4, ground := Ground.data }, { on := 10, ground := Ground.data }], guard := none } ∧ A[12]? = some { dst := some 2, op := Op.assign (Operand.tmp 17), type := 9, pos := "law.go:17", after := #[{ on := 11, ground := Ground.data }, { on := 0, ground := Ground.phase }, { on := 1, ground := Ground.phase }, { on := 2, ground := Ground.phase }, { on := 3, ground := Ground.phase }, { on := 4, ground := Ground.phase }, { on := 5, ground := Ground.phase }, { on := 6, ground := Ground.phase }, { on := 7, ground := Ground.phase }, { on := 8, ground := Ground.phase }, { on := 9, ground := Ground.phase }, { on := 10, ground := Ground.phase }, { on := 11, ground := Ground.phase }], guard := none }) #[{ dst := some 6, op := Op.move (Operand.tmp 0), type := 5, pos := "law.go:17", after := #[], guard := none }, { dst := some 7, op := Op.binOp BinOp.rem 5 (Operand.tmp 6) (Operand.const (Value.int IntKind.u8 12)) 5, type := 5, pos := "law.go:17", after := #[{ on := 0, ground := Ground.data }], guard := none }, { dst := some 8, op := Op.binOp BinOp.add 5 (Operand.const (Value.int IntKind.u8 97)) (Operand.tmp 7) 5, type := 5, pos := "law.go:17", after := #[{ on := 1, ground := Ground.data }], guard := none }, { dst := some 9, op := Op.buildSlice 34 1 #[(0, Operand.tmp 8)], type := 34, pos := "law.go:17", after := #[{ on := 2, ground := Ground.data }], guard := none }, { dst := some 10, op := Op.convert 34 9 (Operand.tmp 9), type := 9, pos := "law.go:17", after := #[{ on := 3, ground := Ground.data }], guard := none }, { dst := some 11, op := Op.buildSlice 27 3 #[(0, Operand.const (Value.string { data := #[] })), (1, Operand.const (Value.string { data := #[49] })), (2, Operand.const (Value.string { data := #[47, 120] }))], type := 27, pos := "law.go:17", after := #[], guard := none }, { dst := some 12, op := Op.move (Operand.tmp 0), type := 5, pos := "law.go:17", after := #[], guard := none }, { dst := some 13, op := Op.binOp BinOp.quo 5 (Operand.tmp 12) (Operand.const (Value.int IntKind.u8 16)) 5, type := 5, pos := "law.go:17", after := #[{ on := 6, ground := Ground.data }], guard := none }, { dst := some 14, op := Op.binOp BinOp.rem 5 (Operand.tmp 13) (Operand.const (Value.int IntKind.u8 3)) 5, type := 5, pos := "law.go:17", after := #[{ on := 7, ground := Ground.data }], guard := none }, { dst := some 15, op := Op.indexAddr 27 (Operand.tmp 11) (Operand.tmp 14), type := 0, pos := "law.go:17", after := #[{ on := 5, ground := Ground.data }, { on := 8, ground := Ground.data }], guard := none }, { dst := some 16, op := Op.load 9 (Operand.tmp 15), type := 9, pos := "law.go:17", after := #[{ on := 9, ground := Ground.data }], guard := none }, { dst := some 17, op := Op.binOp BinOp.add 9 (Operand.tmp 10) (Operand.tmp 16) 9, type := 9, pos := "law.go:17", after := #[{ on := 4, ground := Ground.data }, { on := 10, ground := Ground.data }], guard := none }, { dst := some 2, op := Op.assign (Operand.tmp 17), type := 9, pos := "law.go:17", after := #[{ on := 11, ground := Ground.data }, { on := 0, ground := Ground.phase }, { on := 1, ground := Ground.phase }, { on := 2, ground := Ground.phase }, { on := 3, ground := Ground.phase }, { on := 4, ground := Ground.phase }, { on := 5, ground := Ground.phase }, { on := 6, ground := Ground.phase }, { on := 7, ground := Ground.phase }, { on := 8, ground := Ground.phase }, { on := 9, ground := Ground.phase }, { on := 10, ground := Ground.phase }, { on := 11, ground := Ground.phase }], guard := none }] from ⟨by kernel_rfl, by kernel_rfl, by kernel_rfl, by kernel_rfl, by kernel_rfl, by kernel_rfl, by kernel_rfl, by kernel_rfl, by kernel_rfl, by kernel_rfl, by kernel_rfl, by kernel_rfl, by kernel_rfl⟩)
  obtain ⟨w1, hw2, hb3⟩ := drew_new w
  replace LOW := LOW.trans (hb3.mono LOW.size)
  refine wp_region_held_drew (S := (fun _ => True)) (by kernel_rfl) trivial (fun hHeld => ?_)
  rw [hw2]
  clear hw2 hb3
  refine wpAnyH_take (i := 0) (v := ?v1) HO.out.1 (by kernel_rfl) (by kernel_rfl) (by kernel_rfl) (fun _ _ _ h => h) (Or.inl ⟨by rfl, ?hy1⟩) (by assumption) ?rest1
  case hy1 => (intro w1 hSw; (try dsimp only at hSw); obtain - := hSw; go_simp; try with_reducible rfl)
  try simp only [Act.put, List.setIfInBounds_toArray, List.set_cons_zero, List.set_cons_succ]
  refine wpAnyH_take (i := 1) (v := ?v2) HO.out.2.1 (by kernel_rfl) (by kernel_rfl) (by kernel_rfl) (fun _ _ _ h => h) (Or.inl ⟨by rfl, ?hy2⟩) (by assumption) ?rest2
  case hy2 => (intro w1 hSw; (try dsimp only at hSw); obtain - := hSw; go_simp; try with_reducible rfl)
  try simp only [Act.put, List.setIfInBounds_toArray, List.set_cons_zero, List.set_cons_succ]
  refine wpAnyH_take (i := 2) (v := ?v3) HO.out.2.2.1 (by kernel_rfl) (by kernel_rfl) (by kernel_rfl) (fun _ _ _ h => h) (Or.inl ⟨by rfl, ?hy3⟩) (by assumption) ?rest3
  case hy3 => (intro w1 hSw; (try dsimp only at hSw); obtain - := hSw; go_simp; try with_reducible rfl)
  try simp only [Act.put, List.setIfInBounds_toArray, List.set_cons_zero, List.set_cons_succ]
  refine wpAnyH_take (i := 6) (v := ?v4) HO.out.2.2.2.2.2.2.1 (by kernel_rfl) (by kernel_rfl) (by kernel_rfl) (fun _ _ _ h => h) (Or.inl ⟨by rfl, ?hy4⟩) (by assumption) ?rest4
  case hy4 => (intro w1 hSw; (try dsimp only at hSw); obtain - := hSw; go_simp; try with_reducible rfl)
  try simp only [Act.put, List.setIfInBounds_toArray, List.set_cons_zero, List.set_cons_succ]
  refine wpAnyH_take (i := 7) (v := ?v5) HO.out.2.2.2.2.2.2.2.1 (by kernel_rfl) (by kernel_rfl) (by kernel_rfl) (fun _ _ _ h => h) (Or.inl ⟨by rfl, ?hy5⟩) (by assumption) ?rest5
  case hy5 => (intro w1 hSw; (try dsimp only at hSw); obtain - := hSw; go_simp; try with_reducible rfl)
  try simp only [Act.put, List.setIfInBounds_toArray, List.set_cons_zero, List.set_cons_succ]
  refine wpAnyH_take (i := 8) (v := ?v6) HO.out.2.2.2.2.2.2.2.2.1 (by kernel_rfl) (by kernel_rfl) (by kernel_rfl) (fun _ _ _ h => h) (Or.inl ⟨by rfl, ?hy6⟩) (by assumption) ?rest6
  case hy6 => (intro w1 hSw; (try dsimp only at hSw); obtain - := hSw; go_simp; try with_reducible rfl)
  try simp only [Act.put, List.setIfInBounds_toArray, List.set_cons_zero, List.set_cons_succ]
  refine wpAnyH_ready (rs := [3, 5]) (by kernel_rfl) (by simp) ?_
  refine AllReadyH.cons HO.out.2.2.2.1 (fun K hK => ?_) ?_
  · go_simp
    have LE7 := Lib.hid LOW.size
    obtain ⟨w4, hw5, hb6, QA⟩ := alloc_new w1 #[.int .u8 (D : Int)] 5
    replace LOW := LOW.trans (hb6.mono LOW.size)
    clear hb6
    rw [hw5]
    clear hw5
    try clear hHeld
    refine hK.out _ _ (trivial) (fun hHeld => ?_)
    clear hK K
    try simp only [Act.put, List.setIfInBounds_toArray, List.set_cons_zero, List.set_cons_succ]
    refine wpAnyH_ready (rs := [4, 5]) (by kernel_rfl) (by simp) ?_
    refine AllReadyH.cons HO.out.2.2.2.2.1 (fun K hK => ?_) ?_
    · rw [if_pos (by rfl)]
      have cv := bytes_conv (l := [u]) (c := 1) (by simp only [List.map_cons, List.map_nil, hul]) QA
      skip
      simp only [List.length_singleton] at cv
      go_simp
      try clear hHeld
      refine hK.out _ _ (trivial) (fun hHeld => ?_)
      clear hK K
      try simp only [Act.put, List.setIfInBounds_toArray, List.set_cons_zero, List.set_cons_succ]
      refine wpAnyH_ready (rs := [5]) (by kernel_rfl) (by simp) ?_
      refine AllReadyH.cons HO.out.2.2.2.2.2.1 (fun K hK => ?_) AllReadyH.nil
      go_simp
      have LE11 := Lib.hid LOW.size
      obtain ⟨w8, hw9, hb10, QB⟩ := alloc_new w4 sufV 9
      replace hw9 : w4.alloc (.cells #[.string ⟨#[]⟩, .string ⟨#[49]⟩, .string ⟨#[47, 120]⟩] 9) = w8 := hw9
      replace QA := QA.later hb10
      replace LOW := LOW.trans (hb10.mono LOW.size)
      clear hb10
      rw [hw9]
      clear hw9
      try clear hHeld
      refine hK.out _ _ (trivial) (fun hHeld => ?_)
      clear hK K
      try simp only [Act.put, List.setIfInBounds_toArray, List.set_cons_zero, List.set_cons_succ]
      refine wpAnyH_take (i := 9) (v := ?v7) HO.out.2.2.2.2.2.2.2.2.2.1 (by kernel_rfl) (by kernel_rfl) (by kernel_rfl) (fun _ _ _ h => h) (Or.inl ⟨by rfl, ?hy7⟩) (by assumption) ?rest7
      case hy7 => (intro w1 hSw; (try dsimp only at hSw); obtain - := hSw; go_simp; try with_reducible rfl)
      try simp only [Act.put, List.setIfInBounds_toArray, List.set_cons_zero, List.set_cons_succ]
      refine wpAnyH_ready (rs := [10]) (by kernel_rfl) (by simp) ?_
      refine AllReadyH.cons HO.out.2.2.2.2.2.2.2.2.2.2.1 (fun K hK => ?_) AllReadyH.nil
      rw [if_pos (by rfl)]
      have hl := (QB.cell z).trans (suf_cell z z3)
      rw [hxx] at hl
      go_simp
      try clear hHeld
      refine hK.out _ _ (trivial) (fun hHeld => ?_)
      clear hK K
      try simp only [Act.put, List.setIfInBounds_toArray, List.set_cons_zero, List.set_cons_succ]
      refine wpAnyH_take (i := 11) (v := ?v8) HO.out.2.2.2.2.2.2.2.2.2.2.2.1 (by kernel_rfl) (by kernel_rfl) (by kernel_rfl) (fun _ _ _ h => h) (Or.inl ⟨by rfl, ?hy8⟩) (by assumption) ?rest8
      case hy8 => (intro w1 hSw; (try dsimp only at hSw); obtain - := hSw; go_simp; try with_reducible rfl)
      try simp only [Act.put, List.setIfInBounds_toArray, List.set_cons_zero, List.set_cons_succ]
      refine wpAnyH_take (i := 12) (v := ?v9) HO.out.2.2.2.2.2.2.2.2.2.2.2.2 (by kernel_rfl) (by kernel_rfl) (by kernel_rfl) (fun _ _ _ h => h) (Or.inl ⟨by rfl, ?hy9⟩) (by assumption) ?rest9
      case hy9 => (intro w1 hSw; (try dsimp only at hSw); obtain - := hSw; go_simp; try with_reducible rfl)
      try simp only [Act.put, List.setIfInBounds_toArray, List.set_cons_zero, List.set_cons_succ]
      refine wpAnyH_done (by kernel_rfl) ?_ _
      go_wp2_with fail
      go_ret
      exact ⟨by rw [HN.out]; rfl, LOW⟩
    refine AllReadyH.cons HO.out.2.2.2.2.2.1 (fun K hK => ?_) AllReadyH.nil
    go_simp
    have LE15 := Lib.hid LOW.size
    obtain ⟨w12, hw13, hb14, QB⟩ := alloc_new w4 sufV 9
    replace hw13 : w4.alloc (.cells #[.string ⟨#[]⟩, .string ⟨#[49]⟩, .string ⟨#[47, 120]⟩] 9) = w12 := hw13
    replace QA := QA.later hb14
    replace LOW := LOW.trans (hb14.mono LOW.size)
    clear hb14
    rw [hw13]
    clear hw13
    try clear hHeld
    refine hK.out _ _ (trivial) (fun hHeld => ?_)
    clear hK K
    try simp only [Act.put, List.setIfInBounds_toArray, List.set_cons_zero, List.set_cons_succ]
    refine wpAnyH_take (i := 9) (v := ?v10) HO.out.2.2.2.2.2.2.2.2.2.1 (by kernel_rfl) (by kernel_rfl) (by kernel_rfl) (fun _ _ _ h => h) (Or.inl ⟨by rfl, ?hy10⟩) (by assumption) ?rest10
    case hy10 => (intro w1 hSw; (try dsimp only at hSw); obtain - := hSw; go_simp; try with_reducible rfl)
    try simp only [Act.put, List.setIfInBounds_toArray, List.set_cons_zero, List.set_cons_succ]
    refine wpAnyH_ready (rs := [4, 10]) (by kernel_rfl) (by simp) ?_
    refine AllReadyH.cons HO.out.2.2.2.2.1 (fun K hK => ?_) ?_
    · rw [if_pos (by rfl)]
      have cv := bytes_conv (l := [u]) (c := 1) (by simp only [List.map_cons, List.map_nil, hul]) QA
      skip
      simp only [List.length_singleton] at cv
      go_simp
      try clear hHeld
      refine hK.out _ _ (trivial) (fun hHeld => ?_)
      clear hK K
      try simp only [Act.put, List.setIfInBounds_toArray, List.set_cons_zero, List.set_cons_succ]
      refine wpAnyH_ready (rs := [10]) (by kernel_rfl) (by simp) ?_
      refine AllReadyH.cons HO.out.2.2.2.2.2.2.2.2.2.2.1 (fun K hK => ?_) AllReadyH.nil
      rw [if_pos (by rfl)]
      have hl := (QB.cell z).trans (suf_cell z z3)
      rw [hxx] at hl
      go_simp
      try clear hHeld
      refine hK.out _ _ (trivial) (fun hHeld => ?_)
      clear hK K
      try simp only [Act.put, List.setIfInBounds_toArray, List.set_cons_zero, List.set_cons_succ]
      refine wpAnyH_take (i := 11) (v := ?v11) HO.out.2.2.2.2.2.2.2.2.2.2.2.1 (by kernel_rfl) (by kernel_rfl) (by kernel_rfl) (fun _ _ _ h => h) (Or.inl ⟨by rfl, ?hy11⟩) (by assumption) ?rest11
      case hy11 => (intro w1 hSw; (try dsimp only at hSw); obtain - := hSw; go_simp; try with_reducible rfl)
      try simp only [Act.put, List.setIfInBounds_toArray, List.set_cons_zero, List.set_cons_succ]
      refine wpAnyH_take (i := 12) (v := ?v12) HO.out.2.2.2.2.2.2.2.2.2.2.2.2 (by kernel_rfl) (by kernel_rfl) (by kernel_rfl) (fun _ _ _ h => h) (Or.inl ⟨by rfl, ?hy12⟩) (by assumption) ?rest12
      case hy12 => (intro w1 hSw; (try dsimp only at hSw); obtain - := hSw; go_simp; try with_reducible rfl)
      try simp only [Act.put, List.setIfInBounds_toArray, List.set_cons_zero, List.set_cons_succ]
      refine wpAnyH_done (by kernel_rfl) ?_ _
      go_wp2_with fail
      go_ret
      exact ⟨by rw [HN.out]; rfl, LOW⟩
    refine AllReadyH.cons HO.out.2.2.2.2.2.2.2.2.2.2.1 (fun K hK => ?_) AllReadyH.nil
    rw [if_pos (by rfl)]
    have hl := (QB.cell z).trans (suf_cell z z3)
    rw [hxx] at hl
    go_simp
    try clear hHeld
    refine hK.out _ _ (trivial) (fun hHeld => ?_)
    clear hK K
    try simp only [Act.put, List.setIfInBounds_toArray, List.set_cons_zero, List.set_cons_succ]
    refine wpAnyH_ready (rs := [4]) (by kernel_rfl) (by simp) ?_
    refine AllReadyH.cons HO.out.2.2.2.2.1 (fun K hK => ?_) AllReadyH.nil
    rw [if_pos (by rfl)]
    have cv := bytes_conv (l := [u]) (c := 1) (by simp only [List.map_cons, List.map_nil, hul]) QA
    skip
    simp only [List.length_singleton] at cv
    go_simp
    try clear hHeld
    refine hK.out _ _ (trivial) (fun hHeld => ?_)
    clear hK K
    try simp only [Act.put, List.setIfInBounds_toArray, List.set_cons_zero, List.set_cons_succ]
    refine wpAnyH_take (i := 11) (v := ?v13) HO.out.2.2.2.2.2.2.2.2.2.2.2.1 (by kernel_rfl) (by kernel_rfl) (by kernel_rfl) (fun _ _ _ h => h) (Or.inl ⟨by rfl, ?hy13⟩) (by assumption) ?rest13
    case hy13 => (intro w1 hSw; (try dsimp only at hSw); obtain - := hSw; go_simp; try with_reducible rfl)
    try simp only [Act.put, List.setIfInBounds_toArray, List.set_cons_zero, List.set_cons_succ]
    refine wpAnyH_take (i := 12) (v := ?v14) HO.out.2.2.2.2.2.2.2.2.2.2.2.2 (by kernel_rfl) (by kernel_rfl) (by kernel_rfl) (fun _ _ _ h => h) (Or.inl ⟨by rfl, ?hy14⟩) (by assumption) ?rest14
    case hy14 => (intro w1 hSw; (try dsimp only at hSw); obtain - := hSw; go_simp; try with_reducible rfl)
    try simp only [Act.put, List.setIfInBounds_toArray, List.set_cons_zero, List.set_cons_succ]
    refine wpAnyH_done (by kernel_rfl) ?_ _
    go_wp2_with fail
    go_ret
    exact ⟨by rw [HN.out]; rfl, LOW⟩
  refine AllReadyH.cons HO.out.2.2.2.2.2.1 (fun K hK => ?_) AllReadyH.nil
  go_simp
  have LE19 := Lib.hid LOW.size
  obtain ⟨w16, hw17, hb18, QB⟩ := alloc_new w1 sufV 9
  replace hw17 : w1.alloc (.cells #[.string ⟨#[]⟩, .string ⟨#[49]⟩, .string ⟨#[47, 120]⟩] 9) = w16 := hw17
  replace LOW := LOW.trans (hb18.mono LOW.size)
  clear hb18
  rw [hw17]
  clear hw17
  try clear hHeld
  refine hK.out _ _ (trivial) (fun hHeld => ?_)
  clear hK K
  try simp only [Act.put, List.setIfInBounds_toArray, List.set_cons_zero, List.set_cons_succ]
  refine wpAnyH_take (i := 9) (v := ?v15) HO.out.2.2.2.2.2.2.2.2.2.1 (by kernel_rfl) (by kernel_rfl) (by kernel_rfl) (fun _ _ _ h => h) (Or.inl ⟨by rfl, ?hy15⟩) (by assumption) ?rest15
  case hy15 => (intro w1 hSw; (try dsimp only at hSw); obtain - := hSw; go_simp; try with_reducible rfl)
  try simp only [Act.put, List.setIfInBounds_toArray, List.set_cons_zero, List.set_cons_succ]
  refine wpAnyH_ready (rs := [3, 10]) (by kernel_rfl) (by simp) ?_
  refine AllReadyH.cons HO.out.2.2.2.1 (fun K hK => ?_) ?_
  · go_simp
    have LE23 := Lib.hid LOW.size
    obtain ⟨w20, hw21, hb22, QA⟩ := alloc_new w16 #[.int .u8 (D : Int)] 5
    replace QB := QB.later hb22
    replace LOW := LOW.trans (hb22.mono LOW.size)
    clear hb22
    rw [hw21]
    clear hw21
    try clear hHeld
    refine hK.out _ _ (trivial) (fun hHeld => ?_)
    clear hK K
    try simp only [Act.put, List.setIfInBounds_toArray, List.set_cons_zero, List.set_cons_succ]
    refine wpAnyH_ready (rs := [4, 10]) (by kernel_rfl) (by simp) ?_
    refine AllReadyH.cons HO.out.2.2.2.2.1 (fun K hK => ?_) ?_
    · rw [if_pos (by rfl)]
      have cv := bytes_conv (l := [u]) (c := 1) (by simp only [List.map_cons, List.map_nil, hul]) QA
      skip
      simp only [List.length_singleton] at cv
      go_simp
      try clear hHeld
      refine hK.out _ _ (trivial) (fun hHeld => ?_)
      clear hK K
      try simp only [Act.put, List.setIfInBounds_toArray, List.set_cons_zero, List.set_cons_succ]
      refine wpAnyH_ready (rs := [10]) (by kernel_rfl) (by simp) ?_
      refine AllReadyH.cons HO.out.2.2.2.2.2.2.2.2.2.2.1 (fun K hK => ?_) AllReadyH.nil
      rw [if_pos (by rfl)]
      have hl := (QB.cell z).trans (suf_cell z z3)
      rw [hxx] at hl
      go_simp
      try clear hHeld
      refine hK.out _ _ (trivial) (fun hHeld => ?_)
      clear hK K
      try simp only [Act.put, List.setIfInBounds_toArray, List.set_cons_zero, List.set_cons_succ]
      refine wpAnyH_take (i := 11) (v := ?v16) HO.out.2.2.2.2.2.2.2.2.2.2.2.1 (by kernel_rfl) (by kernel_rfl) (by kernel_rfl) (fun _ _ _ h => h) (Or.inl ⟨by rfl, ?hy16⟩) (by assumption) ?rest16
      case hy16 => (intro w1 hSw; (try dsimp only at hSw); obtain - := hSw; go_simp; try with_reducible rfl)
      try simp only [Act.put, List.setIfInBounds_toArray, List.set_cons_zero, List.set_cons_succ]
      refine wpAnyH_take (i := 12) (v := ?v17) HO.out.2.2.2.2.2.2.2.2.2.2.2.2 (by kernel_rfl) (by kernel_rfl) (by kernel_rfl) (fun _ _ _ h => h) (Or.inl ⟨by rfl, ?hy17⟩) (by assumption) ?rest17
      case hy17 => (intro w1 hSw; (try dsimp only at hSw); obtain - := hSw; go_simp; try with_reducible rfl)
      try simp only [Act.put, List.setIfInBounds_toArray, List.set_cons_zero, List.set_cons_succ]
      refine wpAnyH_done (by kernel_rfl) ?_ _
      go_wp2_with fail
      go_ret
      exact ⟨by rw [HN.out]; rfl, LOW⟩
    refine AllReadyH.cons HO.out.2.2.2.2.2.2.2.2.2.2.1 (fun K hK => ?_) AllReadyH.nil
    rw [if_pos (by rfl)]
    have hl := (QB.cell z).trans (suf_cell z z3)
    rw [hxx] at hl
    go_simp
    try clear hHeld
    refine hK.out _ _ (trivial) (fun hHeld => ?_)
    clear hK K
    try simp only [Act.put, List.setIfInBounds_toArray, List.set_cons_zero, List.set_cons_succ]
    refine wpAnyH_ready (rs := [4]) (by kernel_rfl) (by simp) ?_
    refine AllReadyH.cons HO.out.2.2.2.2.1 (fun K hK => ?_) AllReadyH.nil
    rw [if_pos (by rfl)]
    have cv := bytes_conv (l := [u]) (c := 1) (by simp only [List.map_cons, List.map_nil, hul]) QA
    skip
    simp only [List.length_singleton] at cv
    go_simp
    try clear hHeld
    refine hK.out _ _ (trivial) (fun hHeld => ?_)
    clear hK K
    try simp only [Act.put, List.setIfInBounds_toArray, List.set_cons_zero, List.set_cons_succ]
    refine wpAnyH_take (i := 11) (v := ?v18) HO.out.2.2.2.2.2.2.2.2.2.2.2.1 (by kernel_rfl) (by kernel_rfl) (by kernel_rfl) (fun _ _ _ h => h) (Or.inl ⟨by rfl, ?hy18⟩) (by assumption) ?rest18
    case hy18 => (intro w1 hSw; (try dsimp only at hSw); obtain - := hSw; go_simp; try with_reducible rfl)
    try simp only [Act.put, List.setIfInBounds_toArray, List.set_cons_zero, List.set_cons_succ]
    refine wpAnyH_take (i := 12) (v := ?v19) HO.out.2.2.2.2.2.2.2.2.2.2.2.2 (by kernel_rfl) (by kernel_rfl) (by kernel_rfl) (fun _ _ _ h => h) (Or.inl ⟨by rfl, ?hy19⟩) (by assumption) ?rest19
    case hy19 => (intro w1 hSw; (try dsimp only at hSw); obtain - := hSw; go_simp; try with_reducible rfl)
    try simp only [Act.put, List.setIfInBounds_toArray, List.set_cons_zero, List.set_cons_succ]
    refine wpAnyH_done (by kernel_rfl) ?_ _
    go_wp2_with fail
    go_ret
    exact ⟨by rw [HN.out]; rfl, LOW⟩
  refine AllReadyH.cons HO.out.2.2.2.2.2.2.2.2.2.2.1 (fun K hK => ?_) AllReadyH.nil
  rw [if_pos (by rfl)]
  have hl := (QB.cell z).trans (suf_cell z z3)
  rw [hxx] at hl
  go_simp
  try clear hHeld
  refine hK.out _ _ (trivial) (fun hHeld => ?_)
  clear hK K
  try simp only [Act.put, List.setIfInBounds_toArray, List.set_cons_zero, List.set_cons_succ]
  refine wpAnyH_ready (rs := [3]) (by kernel_rfl) (by simp) ?_
  refine AllReadyH.cons HO.out.2.2.2.1 (fun K hK => ?_) AllReadyH.nil
  go_simp
  have LE27 := Lib.hid LOW.size
  obtain ⟨w24, hw25, hb26, QA⟩ := alloc_new w16 #[.int .u8 (D : Int)] 5
  replace QB := QB.later hb26
  replace LOW := LOW.trans (hb26.mono LOW.size)
  clear hb26
  rw [hw25]
  clear hw25
  try clear hHeld
  refine hK.out _ _ (trivial) (fun hHeld => ?_)
  clear hK K
  try simp only [Act.put, List.setIfInBounds_toArray, List.set_cons_zero, List.set_cons_succ]
  refine wpAnyH_ready (rs := [4]) (by kernel_rfl) (by simp) ?_
  refine AllReadyH.cons HO.out.2.2.2.2.1 (fun K hK => ?_) AllReadyH.nil
  rw [if_pos (by rfl)]
  have cv := bytes_conv (l := [u]) (c := 1) (by simp only [List.map_cons, List.map_nil, hul]) QA
  skip
  simp only [List.length_singleton] at cv
  go_simp
  try clear hHeld
  refine hK.out _ _ (trivial) (fun hHeld => ?_)
  clear hK K
  try simp only [Act.put, List.setIfInBounds_toArray, List.set_cons_zero, List.set_cons_succ]
  refine wpAnyH_take (i := 11) (v := ?v20) HO.out.2.2.2.2.2.2.2.2.2.2.2.1 (by kernel_rfl) (by kernel_rfl) (by kernel_rfl) (fun _ _ _ h => h) (Or.inl ⟨by rfl, ?hy20⟩) (by assumption) ?rest20
  case hy20 => (intro w1 hSw; (try dsimp only at hSw); obtain - := hSw; go_simp; try with_reducible rfl)
  try simp only [Act.put, List.setIfInBounds_toArray, List.set_cons_zero, List.set_cons_succ]
  refine wpAnyH_take (i := 12) (v := ?v21) HO.out.2.2.2.2.2.2.2.2.2.2.2.2 (by kernel_rfl) (by kernel_rfl) (by kernel_rfl) (fun _ _ _ h => h) (Or.inl ⟨by rfl, ?hy21⟩) (by assumption) ?rest21
  case hy21 => (intro w1 hSw; (try dsimp only at hSw); obtain - := hSw; go_simp; try with_reducible rfl)
  try simp only [Act.put, List.setIfInBounds_toArray, List.set_cons_zero, List.set_cons_succ]
  refine wpAnyH_done (by kernel_rfl) ?_ _
  go_wp2_with fail
  go_ret
  exact ⟨by rw [HN.out]; rfl, LOW⟩
theorem name_len {b : Nat} : (nmC b).length ≤ maxLen := by have := nmC_len b; unfold maxLen; omega
theorem name10_any {b : Nat} {w : World} (hb : b < 256) : Calls Tryz.prog 19 #[.int .u8 (b : Int)] w fun e w' => e = .returned (.string ⟨(nmC b).toArray⟩) ∧ Below w.heap.size w w' := by
  by_cases h : b % 16 = 15
  · refine (name_star hb h).mono ?_
    rintro e w' ⟨rfl, hB⟩
    exact ⟨by unfold nmC; rw [if_pos h], hB⟩
  · exact name_other hb h
theorem nmc_fit (ms : List Nat) (m : Nat) (h : m ≤ 1000) : NmFit (nmcL ms m) := ⟨fun s hs => by
  obtain ⟨b, _, rfl⟩ := List.mem_map.1 hs
  exact name_len, by have := nmc_len ms m; omega⟩
set_option maxRecDepth 100000 in
set_option maxHeartbeats 2000000 in
theorem nameList_any {a : Option Addr} {n c m : Nat} {ms : List Nat} {w : World} (h : BytesIn w a ms) (hl : ms.length = n) (hn : n ≤ 9223372036854775807) (hm : m ≤ 100) (hx : ∀ x ∈ ms, x < 256) :
    Calls Tryz.prog 52 #[.slice a n c, .int .i64 (m : Int)] w fun e w' => ∃ a' c', e = .returned (.slice a' (nmcL ms m).length c') ∧ w'.ownsRow w.heap.size 9 1 (.slice a' (nmcL ms m).length c') (nmcL ms m).length (tsV (nmcL ms m)) ∧ Below w.heap.size w w' := by
  obtain ⟨i0, hi, hz0, hz1, hz2⟩ := info_parts Tryz.infoStr
  have H := Lib.hid h
  have HL := Lib.hid hl
  have HX := Lib.hid hx
  clear h hl hx
  go_enter Tryz.func52, Tryz.ntmps52
  go_wp2_with fail
  go_loopw [6, 5] (fun i v wr => ∃ k : Nat, k ≤ n ∧ k ≤ m ∧ i = .int .i64 k ∧ wr.ownsRow w.heap.size 9 1 v (nmcL (ms.take k) m).length (tsV (nmcL (ms.take k) m)) ∧ Below w.heap.size w wr) (fun i _ _ => n - (RowKit.intOf i).toNat)
  case atStart => exact ⟨0, Nat.zero_le _, Nat.zero_le _, rfl, by rw [show nmcL (ms.take 0) m = [] by simp [nmcL]]; exact World.ownsRow_nil _ _ _ _, Below.refl _ _⟩
  case round =>
    obtain ⟨k, hk, hkm, rfl, hown, hb⟩ := hrel
    by_cases hlt : k < n
    · by_cases hlt2 : k < m
      · obtain ⟨b, hx⟩ : ∃ b, ms[k]? = some b := ⟨_, List.getElem?_eq_getElem (by have := HL.out; omega)⟩
        have hb256 := HX.out b (List.mem_of_getElem? hx)
        obtain ⟨g, off, rfl, hgl, hcell⟩ := H.out k b hx
        have d1 : wr.cell? ⟨g, off + k, none⟩ = some (.int .u8 (b : Int)) := (hb.cell (p := ⟨g, _, none⟩) hgl).trans hcell
        have b0 : (0 : Int) ≤ (k : Int) := by omega
        have b1 : (k : Int) < (n : Int) := by omega
        have b2 : (k : Int) < (m : Int) := by omega
        have HF := Lib.hid (nmc_next hx hlt2)
        have HOW := Lib.hid hown
        have HB := Lib.hid hb
        have hle := nmc_len (ms.take k) m
        have HC := Lib.hid (name10_any (w := wr) hb256)
        clear hown hb hx hcell hb256
        go_wp2_with fail
        refine HC.out.mono ?_
        rintro e w2 ⟨rfl, hb2⟩
        have HOW2 := Lib.hid (ownsRow_later HOW.out hb2)
        have HB2 := Lib.hid (HB.out.trans (hb2.mono HB.out.size))
        have hs2 : w.heap.size ≤ w2.heap.size := HB2.out.size
        obtain ⟨x, hxx⟩ : ∃ x, nmC b = x := ⟨_, rfl⟩
        rw [hxx] at HF ⊢
        clear hb2 hxx
        dsimp only
        go_wp2_with (at_builtin; go_must (refine wpList_append_own _ rfl _ _ 27 rfl w.heap.size 9 i0 _ 1 16 Tryz.underlying27 hi hz0 hz1 hz2 rfl (by omega) _ _ _ rfl (HOW2.out.alloc _) ⟨w2.heap.size, 0, none⟩ 1 1 (tsV [x]) rfl rfl (World.news_of_block (cs := #[.string ⟨x.toArray⟩]) (t := 9) (fr := (0, 0)) (heap_alloc_new w2 _)) (tsV_one _) (by unfold maxLen; omega) (by omega) (by simp; omega) ?_; intro v3 w3 hown3 hgrow3 _))
        have HB3 := Lib.hid ((HB2.out.alloc hs2 _).grown hgrow3 (by simp; omega) (fun j hj => (HOW2.out.lt j hj).1))
        have HO3 := Lib.hid (show w3.ownsRow w.heap.size 9 1 v3 (nmcL (ms.take (k + 1)) m).length (tsV (nmcL (ms.take (k + 1)) m)) by rw [HF.out, tsV_append, List.length_append]; exact hown3)
        clear hown3 hgrow3
        go_wp2_with fail
        go_roundw
        case rel => exact ⟨k + 1, by omega, by omega, by go_num, HO3.out, HB3.out⟩
        case measure => simp [RowKit.intOf]; omega
      · obtain rfl : k = m := by omega
        have b1 : (k : Int) < (n : Int) := by omega
        have b2 : ¬ (k : Int) < (k : Int) := by omega
        rw [nmc_all ms (.inl (Nat.le_refl _))] at hown
        have HO := Lib.hid hown
        have HB := Lib.hid hb
        obtain ⟨a3, c3, rfl⟩ := owns_slice hown
        clear hown hb
        go_wp2_with fail
        go_ret
        exact ⟨_, _, rfl, HO.out, HB.out⟩
    · have b1 : ¬ (k : Int) < (n : Int) := by omega
      rw [nmc_all ms (.inr (by have := HL.out; omega))] at hown
      have HO := Lib.hid hown
      have HB := Lib.hid hb
      obtain ⟨a3, c3, rfl⟩ := owns_slice hown
      clear hown hb
      go_wp2_with fail
      go_ret
      exact ⟨_, _, rfl, HO.out, HB.out⟩
set_option maxRecDepth 100000 in
theorem few10_any {a : Option Addr} {n c m : Nat} {ms : List Nat} {w : World} (h : BytesIn w a ms) (hl : ms.length = n) (hn : n ≤ 9223372036854775807) (hm : m ≤ 100) (hx : ∀ x ∈ ms, x < 256) :
    Calls Tryz.prog 34 #[.slice a n c, .int .i64 (m : Int)] w fun e w' => ∃ a' c', e = .returned (.slice a' (nmcL ms m).length c') ∧ w'.ownsRow w.heap.size 9 1 (.slice a' (nmcL ms m).length c') (nmcL ms m).length (tsV (nmcL ms m)) ∧ Below w.heap.size w w' := by
  have HC := Lib.hid (nameList_any (c := c) h hl hn hm hx)
  clear h hl hx
  go_enter Tryz.func34, Tryz.ntmps34
  go_wp2_with fail
  refine HC.out.mono ?_
  rintro e w2 ⟨a2, c2, rfl, ho, hb⟩
  have HO := Lib.hid (And.intro ho hb)
  clear ho hb
  go_wp2_with fail
  go_ret
  exact ⟨_, _, rfl, HO.out.1, HO.out.2⟩
end Go.Proofs.YtkjfafnnnkjoeaaGreatDoor
