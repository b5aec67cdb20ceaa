/- client: turn. -/
import Derived.Test.YtdcfdcjgheijcaaGreatDoorClAns
import Derived.Test.YtdcfdcjgheijcaaGreatDoorNmLess
import Derived.Test.YtdcfdcjgheijcaaGreatDoorNmAdd
import Derived.Test.YtdcfdcjgheijcaaGreatDoorNmLater
import Derived.Deep.DeepCutAuto
import Derived.Deep.CutRange
import Derived.Deep.CutBlock
namespace Go.Proofs.YtdcfdcjgheijcaaGreatDoor
open Go.RowKit Go.Lib

/-- An address that is not below n. -/
def Up (n : Nat) (a : Option Addr) : Prop := ∀ p, a = some p → n ≤ p.block
theorem Up.nil (n : Nat) : Up n none := fun _ h => by cases h
theorem Up.mono {n m : Nat} {a : Option Addr} (h : Up n a) (hm : m ≤ n) : Up m a := fun p e => Nat.le_trans hm (h p e)
theorem Up.own {w : World} {base size n l c : Nat} {e : TypeId} {a : Option Addr} {xs : List Value} (h : w.ownsRow base e size (.slice a l c) n xs) : Up base a := by
  rcases h.2 with ⟨hv, _⟩ | ⟨g, cap, cur, hv, hg, _⟩
  · injection hv with e1; subst e1; exact Up.nil _
  · injection hv with e1; subst e1
    intro p e; injection e with e; subst e; exact hg
theorem TsAt.just {w w' : World} {b n c m : Nat} {a : Option Addr} {l : List (List UInt8)} (h : TsAt w (.slice a m c) l) (hu : Up n a) (hb : b < n) (hj : Just b w w') : TsAt w' (.slice a m c) l := by
  obtain ⟨a', c', e, h1, h2, h3⟩ := h
  injection e with e1 e2 e3
  subst e1
  refine ⟨a, c', by rw [e2, e3], h1, h2, fun j u hj' => ?_⟩
  obtain ⟨g, off, ea, hg, hc⟩ := h3 j u hj'
  have hge : n ≤ g := hu _ ea
  refine ⟨g, off, ea, by rw [hj.size]; exact hg, ?_⟩
  rw [← hc]
  unfold World.cell?
  rw [hj.block g (by omega)]
/-- List: texts come out, in a row of their own. -/
theorem list_up {sa : Bool} {sl L : List (List UInt8)} {a : Option Addr} {c : Nat} {w : World} (h : TsAt w (.slice a sl.length c) sl) (hL : nList ⟨sa, sl⟩ = L) (hz : L.length * 16 ≤ 140737488355328) :
    Calls Tryz.prog 16 #[.agg #[.bool sa, .slice a sl.length c]] w fun e w' => ∃ a' c', e = .returned (.slice a' L.length c') ∧ (TsAt w' (.slice a' L.length c') L ∧ Up w.heap.size a') ∧ Below w.heap.size w w' := by
  refine (list_any h hL hz).mono ?_
  rintro e w' ⟨a', c', rfl, ho, hb⟩
  exact ⟨a', c', rfl, ⟨RowV.own ho, Up.own ho⟩, hb⟩
/-- Texts at an address that is not below n. -/
structure TsUp (n : Nat) (w : World) (a : Option Addr) (m c : Nat) (l : List (List UInt8)) : Prop where
  ts : TsAt w (.slice a m c) l
  up : Up n a
theorem TsUp.later {n m c : Nat} {w w' : World} {a : Option Addr} {l : List (List UInt8)} (h : TsUp n w a m c l) (hb : Below w.heap.size w w') : TsUp n w' a m c l := ⟨h.ts.later hb, h.up⟩
theorem TsUp.just {n m c b : Nat} {w w' : World} {a : Option Addr} {l : List (List UInt8)} (h : TsUp n w a m c l) (hb : b < n) (hj : Just b w w') : TsUp n w' a m c l := ⟨h.ts.just h.up hb hj, h.up⟩
/-- What a request says is wanted, and what no more. -/
def turnS (d : Bool) (want had : Ns) : List (List UInt8) := nList (if d then nLess want had else want)
def turnU (d : Bool) (want had : Ns) : List (List UInt8) := if d then nList (nLess had want) else []
def TurnPost (S U : List (List UInt8)) (w : World) (e : Ending) (w' : World) : Prop := ∃ a1 c1 a2 c2, e = .returned (.tuple #[.slice a1 S.length c1, .slice a2 U.length c2]) ∧ TsUp w.heap.size w' a1 S.length c1 S ∧ TsUp w.heap.size w' a2 U.length c2 U ∧ Below w.heap.size w w'
theorem less_fit {al bl sl : List (List UInt8)} {aa ba sa : Bool} (h : NmFit al) (he : nLess ⟨aa, al⟩ ⟨ba, bl⟩ = ⟨sa, sl⟩) : NmFit sl ∧ sl.length ≤ al.length := by
  have e : sl = srt (al.filter fun x => !bl.contains x) := (congrArg Ns.ns he).symm
  have hle : sl.length ≤ al.length := by rw [e]; exact Nat.le_trans (srt_len _) (List.length_filter_le _ _)
  refine ⟨⟨fun s hs => ?_, by have := h.2; omega⟩, hle⟩
  rw [e, srt_mem] at hs
  exact h.1 s (List.mem_filter.1 hs).1
theorem nlist_len (s : Ns) : (nList s).length ≤ s.ns.length + 1 := by unfold nList; split <;> simp

set_option maxRecDepth 100000 in
set_option maxHeartbeats 4000000 in
theorem turn_whole {x : Cl} {t : Tp} {wa : Bool} {wl S : List (List UInt8)} {a : Option Addr} {c : Nat} {w : World} (hd : x.d = false) (hw : TsAt w (.slice a wl.length c) wl) (hS : nList ⟨wa, wl⟩ = S) (hz : S.length * 16 ≤ 140737488355328) :
    Calls Tryz.prog 93 #[x.v, .agg t.cells, .agg #[.bool wa, .slice a wl.length c]] w (TurnPost S [] w) := by
  obtain ⟨w0, hw0, hb0, p0, z0⟩ := alloc_sized w x.arr CT
  obtain ⟨w1, hw1, hb1, p1, z1⟩ := alloc_sized w0 t.cells 69
  obtain ⟨w2, hw2, hb2, p2, z2⟩ := alloc_sized w1 #[.bool wa, .slice a wl.length c] 26
  have hb01 := hb0.trans (hb1.mono hb0.size)
  have hb02 := hb01.trans (hb2.mono hb01.size)
  have cd := ((p0.later hb1).later hb2).cell 0
  rw [x.at0, hd] at cd
  have e0 := p2.cell 0
  have e1 := p2.cell 1
  simp only [List.getElem?_toArray, List.getElem?_cons_zero, List.getElem?_cons_succ] at e0 e1
  have HW := Lib.hid hw0
  have HW1 := Lib.hid hw1
  have HW2 := Lib.hid hw2
  have H := Lib.hid (And.intro (hw.later hb02) (And.intro hS (And.intro hz hb02)))
  clear hw0 hw1 hw2 hb0 hb1 hb2 hb01 hb02 p0 p1 p2 hw hS hz z0 z1 z2 hd
  go_enter Tryz.func93, Tryz.ntmps93
  go_wp2_with (first | rw [HW.out] | rw [HW1.out] | rw [HW2.out])
  refine (list_up H.out.1 H.out.2.1 H.out.2.2.1).mono ?_
  rintro e w3 ⟨a3, c3, rfl, ⟨ht, hu⟩, hb3⟩
  have HT := Lib.hid (And.intro ht (And.intro hu hb3))
  clear ht hu hb3
  go_wp2_with fail
  go_ret2
  exact ⟨a3, c3, none, 0, rfl, ⟨HT.out.1, HT.out.2.1.mono H.out.2.2.2.size⟩, ⟨tsAt_nil _, Up.nil _⟩, H.out.2.2.2.trans (HT.out.2.2.mono H.out.2.2.2.size)⟩
-- part turn_region
set_option maxRecDepth 100000 in
set_option maxHeartbeats 8000000 in
theorem turn_delta {x : Cl} {t : Tp} {wa : Bool} {wl S U : List (List UInt8)} {a : Option Addr} {c : Nat} {w : World} (hd : x.d = true) (hw : TsAt w (.slice a wl.length c) wl) (ht : t.At w) (hf1 : NmFit wl) (hf2 : NmFit t.l) (hS : nList (nLess ⟨wa, wl⟩ ⟨t.all, t.l⟩) = S) (hU : nList (nLess ⟨t.all, t.l⟩ ⟨wa, wl⟩) = U) (hz1 : (wl.length + 1) * 16 ≤ 140737488355328) (hz2 : (t.l.length + 1) * 16 ≤ 140737488355328) :
    Calls Tryz.prog 93 #[x.v, .agg t.cells, .agg #[.bool wa, .slice a wl.length c]] w (TurnPost S U w) := by
  obtain ⟨w0, hw0, hb0, p0, z0⟩ := alloc_sized w x.arr CT
  obtain ⟨w1, hw1, hb1, p1, z1⟩ := alloc_sized w0 t.cells 69
  obtain ⟨w2, hw2, hb2, p2, z2⟩ := alloc_sized w1 #[.bool wa, .slice a wl.length c] 26
  obtain ⟨ma, ml, hm⟩ : ∃ ma ml, nLess ⟨wa, wl⟩ ⟨t.all, t.l⟩ = ⟨ma, ml⟩ := ⟨_, _, rfl⟩
  obtain ⟨oa, ol, ho⟩ : ∃ oa ol, nLess ⟨t.all, t.l⟩ ⟨wa, wl⟩ = ⟨oa, ol⟩ := ⟨_, _, rfl⟩
  rw [hm] at hS
  rw [ho] at hU
  have lm := (less_fit hf1 hm).2
  have lo := (less_fit hf2 ho).2
  have lS : S.length ≤ wl.length + 1 := by rw [← hS]; exact Nat.le_trans (nlist_len _) (by simp only; omega)
  have lU : U.length ≤ t.l.length + 1 := by rw [← hU]; exact Nat.le_trans (nlist_len _) (by simp only; omega)
  have hb01 := hb0.trans (hb1.mono hb0.size)
  have hb02 := hb01.trans (hb2.mono hb01.size)
  have cd := ((p0.later hb1).later hb2).cell 0
  rw [x.at0, hd] at cd
  have HW := Lib.hid hw0
  have HW1 := Lib.hid hw1
  have HW2 := Lib.hid hw2
  have H := Lib.hid (And.intro hm (And.intro ho (And.intro hf1 (And.intro hf2 (And.intro hS (And.intro hU (And.intro (show S.length * 16 ≤ 140737488355328 by omega) (And.intro (show U.length * 16 ≤ 140737488355328 by omega) hb02))))))))
  have hTw := hw.later hb02
  have hTt : TsAt w2 (.slice t.a t.l.length t.c) t.l := ht.later hb02
  have hPt := p1.later hb2
  have hPw := p2
  have B0 : Base w2 w2 := Below.refl _ _
  clear hw0 hw1 hw2 hb0 hb1 hb2 hb01 hb02 p0 p1 p2 hw ht hS hU hz1 hz2 z0 z1 z2 hd hm ho hf1 hf2 lm lo lS lU
  go_enter Tryz.func93, Tryz.ntmps93
  go_wp2_with (first | rw [HW.out] | rw [HW1.out] | rw [HW2.out])
  obtain ⟨w101, hw102, hb103⟩ := drew_new w2
  have q104 := B0.later hb103
  have q105 := hPw.later hb103
  have q106 := hPt.later hb103
  have q107 := hTw.later hb103
  have q108 := hTt.later hb103
  refine wp_region_held_drew (S := (fun w' => w'.cell? ⟨w1.heap.size, 0, none⟩ = some (.bool wa) ∧ w'.cell? ⟨w1.heap.size, 1, none⟩ = some (.slice a wl.length c) ∧ w'.cell? ⟨w0.heap.size, 0, none⟩ = some (.bool t.all) ∧ w'.cell? ⟨w0.heap.size, 1, none⟩ = some (.slice t.a t.l.length t.c) ∧ True)) (by kernel_rfl) (by rw [hw102]; exact ⟨q105.cell 0, q105.cell 1, q106.cell 0, q106.cell 1, trivial⟩) (fun hHeld => ?_)
  rw [hw102] at hHeld ⊢
  refine wpAnyH_take (i := 0) (oi := { dst := some 13, op := Op.load 26 (Operand.tmp 5), type := 26, pos := "ask.go:89", after := #[], guard := none }) (v := ?v1) rfl (by kernel_rfl) (by kernel_rfl) (by kernel_rfl) (fun _ _ _ h => h) (Or.inl ⟨by rfl, ?hy1⟩) (by assumption) ?rest1
  case hy1 => (intro w1 hSw; (try dsimp only at hSw); obtain ⟨h0, h1, h2, h3, -⟩ := hSw; go_simp; try with_reducible rfl)
  try simp only [Act.put, List.setIfInBounds_toArray, List.set_cons_zero, List.set_cons_succ]
  refine wpAnyH_take (i := 1) (oi := { dst := some 14, op := Op.fieldAddr 69 (Operand.tmp 4) 0, type := 0, pos := "ask.go:89", after := #[], guard := none }) (v := ?v2) rfl (by kernel_rfl) (by kernel_rfl) (by kernel_rfl) (fun _ _ _ h => h) (Or.inl ⟨by rfl, ?hy2⟩) (by assumption) ?rest2
  case hy2 => (intro w1 hSw; (try dsimp only at hSw); obtain ⟨h0, h1, h2, h3, -⟩ := hSw; go_simp; try with_reducible rfl)
  try simp only [Act.put, List.setIfInBounds_toArray, List.set_cons_zero, List.set_cons_succ]
  refine wpAnyH_take (i := 2) (oi := { dst := some 15, op := Op.load 26 (Operand.tmp 14), type := 26, pos := "ask.go:89", after := #[{ on := 1, ground := Ground.data }], guard := none }) (v := ?v3) rfl (by kernel_rfl) (by kernel_rfl) (by kernel_rfl) (fun _ _ _ h => h) (Or.inl ⟨by rfl, ?hy3⟩) (by assumption) ?rest3
  case hy3 => (intro w1 hSw; (try dsimp only at hSw); obtain ⟨h0, h1, h2, h3, -⟩ := hSw; go_simp; try with_reducible rfl)
  try simp only [Act.put, List.setIfInBounds_toArray, List.set_cons_zero, List.set_cons_succ]
  refine wpAnyH_take (i := 5) (oi := { dst := some 18, op := Op.fieldAddr 69 (Operand.tmp 4) 0, type := 0, pos := "ask.go:89", after := #[], guard := none }) (v := ?v4) rfl (by kernel_rfl) (by kernel_rfl) (by kernel_rfl) (fun _ _ _ h => h) (Or.inl ⟨by rfl, ?hy4⟩) (by assumption) ?rest4
  case hy4 => (intro w1 hSw; (try dsimp only at hSw); obtain ⟨h0, h1, h2, h3, -⟩ := hSw; go_simp; try with_reducible rfl)
  try simp only [Act.put, List.setIfInBounds_toArray, List.set_cons_zero, List.set_cons_succ]
  refine wpAnyH_take (i := 6) (oi := { dst := some 19, op := Op.load 26 (Operand.tmp 18), type := 26, pos := "ask.go:89", after := #[{ on := 5, ground := Ground.data }], guard := none }) (v := ?v5) rfl (by kernel_rfl) (by kernel_rfl) (by kernel_rfl) (fun _ _ _ h => h) (Or.inl ⟨by rfl, ?hy5⟩) (by assumption) ?rest5
  case hy5 => (intro w1 hSw; (try dsimp only at hSw); obtain ⟨h0, h1, h2, h3, -⟩ := hSw; go_simp; try with_reducible rfl)
  try simp only [Act.put, List.setIfInBounds_toArray, List.set_cons_zero, List.set_cons_succ]
  refine wpAnyH_take (i := 7) (oi := { dst := some 20, op := Op.load 26 (Operand.tmp 5), type := 26, pos := "ask.go:89", after := #[], guard := none }) (v := ?v6) rfl (by kernel_rfl) (by kernel_rfl) (by kernel_rfl) (fun _ _ _ h => h) (Or.inl ⟨by rfl, ?hy6⟩) (by assumption) ?rest6
  case hy6 => (intro w1 hSw; (try dsimp only at hSw); obtain ⟨h0, h1, h2, h3, -⟩ := hSw; go_simp; try with_reducible rfl)
  try simp only [Act.put, List.setIfInBounds_toArray, List.set_cons_zero, List.set_cons_succ]
  refine wpAnyH_ready (rs := [3]) (by kernel_rfl) (by simp) ?_
  refine AllReadyH.cons (o := { dst := some 16, op := Op.call { callee := Callee.value (Operand.func 55), args := #[Operand.tmp 13, Operand.tmp 15], argTypes := #[26, 26] }, type := 26, pos := "ask.go:89", after := #[{ on := 0, ground := Ground.data }, { on := 2, ground := Ground.data }], guard := none }) rfl (fun K hK => ?_) AllReadyH.nil
  go_simp
  refine (less_any (aa := wa) (ba := t.all) q107 q108 H.out.2.2.1 H.out.2.2.2.1 H.out.1).mono ?_
  rintro e w112 ⟨a109, c110, rfl, h111, hb113⟩
  have q114 := q104.later hb113
  have q115 := q105.later hb113
  have q116 := q106.later hb113
  have q117 := q107.later hb113
  have q118 := q108.later hb113
  refine hK.out _ _ (⟨q115.cell 0, q115.cell 1, q116.cell 0, q116.cell 1, trivial⟩) (fun hHeld => ?_)
  clear hK K
  try simp only [Act.put, List.setIfInBounds_toArray, List.set_cons_zero, List.set_cons_succ]
  refine wpAnyH_ready (rs := [4]) (by kernel_rfl) (by simp) ?_
  refine AllReadyH.cons (o := { dst := some 17, op := Op.call { callee := Callee.value (Operand.func 16), args := #[Operand.tmp 16], argTypes := #[26] }, type := 24, pos := "ask.go:89", after := #[{ on := 3, ground := Ground.data }, { on := 3, ground := Ground.chain }], guard := none }) rfl (fun K hK => ?_) AllReadyH.nil
  go_simp
  refine (list_up h111 H.out.2.2.2.2.1 H.out.2.2.2.2.2.2.1).mono ?_
  rintro e w124 ⟨a119, c120, rfl, ⟨h121, u122⟩, hb125⟩
  have q126 := q114.later hb125
  have q127 := q115.later hb125
  have q128 := q116.later hb125
  have q129 := q117.later hb125
  have q130 := q118.later hb125
  have q131 := h111.later hb125
  have t123 : TsUp w.heap.size w124 a119 S.length c120 S := ⟨h121, Up.mono u122 (Nat.le_trans H.out.2.2.2.2.2.2.2.2.size q114.size)⟩
  refine hK.out _ _ (⟨q127.cell 0, q127.cell 1, q128.cell 0, q128.cell 1, trivial⟩) (fun hHeld => ?_)
  clear hK K
  try simp only [Act.put, List.setIfInBounds_toArray, List.set_cons_zero, List.set_cons_succ]
  refine wpAnyH_ready (rs := [8]) (by kernel_rfl) (by simp) ?_
  refine AllReadyH.cons (o := { dst := some 21, op := Op.call { callee := Callee.value (Operand.func 55), args := #[Operand.tmp 19, Operand.tmp 20], argTypes := #[26, 26] }, type := 26, pos := "ask.go:89", after := #[{ on := 6, ground := Ground.data }, { on := 7, ground := Ground.data }, { on := 4, ground := Ground.chain }], guard := none }) rfl (fun K hK => ?_) AllReadyH.nil
  go_simp
  refine (less_any (aa := t.all) (ba := wa) q130 q129 H.out.2.2.2.1 H.out.2.2.1 H.out.2.1).mono ?_
  rintro e w135 ⟨a132, c133, rfl, h134, hb136⟩
  have q137 := q126.later hb136
  have q138 := q127.later hb136
  have q139 := q128.later hb136
  have q140 := q129.later hb136
  have q141 := q130.later hb136
  have q142 := q131.later hb136
  have q143 := t123.later hb136
  refine hK.out _ _ (⟨q138.cell 0, q138.cell 1, q139.cell 0, q139.cell 1, trivial⟩) (fun hHeld => ?_)
  clear hK K
  try simp only [Act.put, List.setIfInBounds_toArray, List.set_cons_zero, List.set_cons_succ]
  refine wpAnyH_ready (rs := [9]) (by kernel_rfl) (by simp) ?_
  refine AllReadyH.cons (o := { dst := some 22, op := Op.call { callee := Callee.value (Operand.func 16), args := #[Operand.tmp 21], argTypes := #[26] }, type := 24, pos := "ask.go:89", after := #[{ on := 8, ground := Ground.data }, { on := 8, ground := Ground.chain }], guard := none }) rfl (fun K hK => ?_) AllReadyH.nil
  go_simp
  refine (list_up h134 H.out.2.2.2.2.2.1 H.out.2.2.2.2.2.2.2.1).mono ?_
  rintro e w149 ⟨a144, c145, rfl, ⟨h146, u147⟩, hb150⟩
  have q151 := q137.later hb150
  have q152 := q138.later hb150
  have q153 := q139.later hb150
  have q154 := q140.later hb150
  have q155 := q141.later hb150
  have q156 := q142.later hb150
  have q157 := q143.later hb150
  have q158 := h134.later hb150
  have t148 : TsUp w.heap.size w149 a144 U.length c145 U := ⟨h146, Up.mono u147 (Nat.le_trans H.out.2.2.2.2.2.2.2.2.size q137.size)⟩
  refine hK.out _ _ (⟨q152.cell 0, q152.cell 1, q153.cell 0, q153.cell 1, trivial⟩) (fun hHeld => ?_)
  clear hK K
  try simp only [Act.put, List.setIfInBounds_toArray, List.set_cons_zero, List.set_cons_succ]
  refine wpAnyH_take (i := 10) (oi := { dst := some 6, op := Op.assign (Operand.tmp 17), type := 24, pos := "ask.go:89", after := #[{ on := 4, ground := Ground.data }, { on := 9, ground := Ground.chain }, { on := 0, ground := Ground.phase }, { on := 1, ground := Ground.phase }, { on := 2, ground := Ground.phase }, { on := 3, ground := Ground.phase }, { on := 4, ground := Ground.phase }, { on := 5, ground := Ground.textOnly Departure.lateStores }, { on := 6, ground := Ground.textOnly Departure.lateStores }, { on := 7, ground := Ground.textOnly Departure.lateStores }, { on := 8, ground := Ground.textOnly Departure.lateStoresUnsure }, { on := 9, ground := Ground.textOnly Departure.lateStoresUnsure }], guard := none }) (v := ?v7) rfl (by kernel_rfl) (by kernel_rfl) (by kernel_rfl) (fun _ _ _ h => h) (Or.inl ⟨by rfl, ?hy7⟩) (by assumption) ?rest7
  case hy7 => (intro w1 hSw; (try dsimp only at hSw); obtain ⟨h0, h1, h2, h3, -⟩ := hSw; go_simp; try with_reducible rfl)
  try simp only [Act.put, List.setIfInBounds_toArray, List.set_cons_zero, List.set_cons_succ]
  refine wpAnyH_take (i := 11) (oi := { dst := some 7, op := Op.assign (Operand.tmp 22), type := 24, pos := "ask.go:89", after := #[{ on := 9, ground := Ground.data }, { on := 10, ground := Ground.chain }, { on := 0, ground := Ground.phase }, { on := 1, ground := Ground.phase }, { on := 2, ground := Ground.phase }, { on := 3, ground := Ground.phase }, { on := 4, ground := Ground.phase }, { on := 5, ground := Ground.phase }, { on := 6, ground := Ground.phase }, { on := 7, ground := Ground.phase }, { on := 8, ground := Ground.phase }, { on := 9, ground := Ground.phase }, { on := 10, ground := Ground.phase }], guard := none }) (v := ?v8) rfl (by kernel_rfl) (by kernel_rfl) (by kernel_rfl) (fun _ _ _ h => h) (Or.inl ⟨by rfl, ?hy8⟩) (by assumption) ?rest8
  case hy8 => (intro w1 hSw; (try dsimp only at hSw); obtain ⟨h0, h1, h2, h3, -⟩ := hSw; go_simp; try with_reducible rfl)
  try simp only [Act.put, List.setIfInBounds_toArray, List.set_cons_zero, List.set_cons_succ]
  refine wpAnyH_done (by kernel_rfl) ?_ _
  go_wp2_with fail
  go_ret2
  exact ⟨a119, c120, a144, c145, rfl, q157, t148, H.out.2.2.2.2.2.2.2.2.trans (q151.mono H.out.2.2.2.2.2.2.2.2.size)⟩
end Go.Proofs.YtdcfdcjgheijcaaGreatDoor
