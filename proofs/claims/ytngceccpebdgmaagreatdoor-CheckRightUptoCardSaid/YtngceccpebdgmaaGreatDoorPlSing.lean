/- payload: the parts of a rule, of an address and of a payload as they stand in memory, and what each puts. -/
import Derived.Test.YtngceccpebdgmaaGreatDoorPlPut
import Derived.Test.YtngceccpebdgmaaGreatDoorPlPutAll
namespace Go.Proofs.YtngceccpebdgmaaGreatDoor
open Go.RowKit Go.Shelf

/-- A block's first cell. -/
def Box (w : World) (b : Nat) (v : Value) : Prop := b < w.heap.size ∧ w.cell? ⟨b, 0, none⟩ = some v
theorem Box.below {w w' : World} {b : Nat} {v : Value} (h : Box w b v) (hb : Below w.heap.size w w') : Box w' b v := ⟨Nat.lt_of_lt_of_le h.1 hb.size, (hb.cell (p := ⟨b, 0, none⟩) h.1).trans h.2⟩

/-- A part that is one field. -/
def SingleAt (w : World) (x : PartV) (num kind pg tg ofF putF valF : Nat) : Prop :=
  ∃ bo bp bn bv : Nat, x = ⟨num, kind, pg, #[.pointer (some ⟨bo, 0, none⟩), .pointer (some ⟨bp, 0, none⟩), .pointer (some ⟨bn, 0, none⟩)], tg, #[.pointer (some ⟨bv, 0, none⟩), .pointer (some ⟨bo, 0, none⟩)]⟩ ∧ Box w bo (.func (.func ofF) #[] #[]) ∧ Box w bp (.func (.func putF) #[] #[]) ∧ Box w bn (.int .i64 (num : Int)) ∧ Box w bv (.func (.func valF) #[] #[])
theorem SingleAt.below {w w' : World} {x : PartV} {num kind pg tg ofF putF valF : Nat} (h : SingleAt w x num kind pg tg ofF putF valF) (hb : Below w.heap.size w w') : SingleAt w' x num kind pg tg ofF putF valF := by
  obtain ⟨bo, bp, bn, bv, hx, a, b, c, d⟩ := h
  exact ⟨bo, bp, bn, bv, hx, a.below hb, b.below hb, c.below hb, d.below hb⟩
/-- A part that is a list. -/
def ListAt (sub : World → Nat → Prop) (w : World) (x : PartV) (num pg tg ofF n : Nat) : Prop :=
  ∃ bo bn bp gp cap : Nat, x = ⟨num, 2, pg, #[.pointer (some ⟨bo, 0, none⟩), .pointer (some ⟨bn, 0, none⟩), .pointer (some ⟨bp, 0, none⟩)], tg, #[.pointer (some ⟨bo, 0, none⟩), .pointer (some ⟨bp, 0, none⟩)]⟩ ∧ Box w bo (.func (.func ofF) #[] #[]) ∧ Box w bn (.int .i64 (num : Int)) ∧ Box w bp (.slice (some ⟨gp, 0, none⟩) n cap) ∧ sub w gp

def RuleParts (w : World) (g : Nat) : Prop := ∃ x0 x1 : PartV, PartsAt w g [x0, x1] ∧ SingleAt w x0 1 2 160 161 117 107 144 ∧ SingleAt w x1 2 2 160 161 118 107 144
def AddrParts (w : World) (g : Nat) : Prop := ∃ x0 x1 x2 : PartV, PartsAt w g [x0, x1, x2] ∧ SingleAt w x0 1 2 162 163 124 107 147 ∧ SingleAt w x1 2 0 164 165 126 110 149 ∧ SingleAt w x2 3 0 164 165 127 110 149
theorem RuleParts.below {w w' : World} {g : Nat} (h : RuleParts w g) (hb : Below w.heap.size w w') : RuleParts w' g := by
  obtain ⟨x0, x1, a, b, c⟩ := h
  exact ⟨x0, x1, a.below hb a.1, b.below hb, c.below hb⟩
theorem AddrParts.below {w w' : World} {g : Nat} (h : AddrParts w g) (hb : Below w.heap.size w w') : AddrParts w' g := by
  obtain ⟨x0, x1, x2, a, b, c, d⟩ := h
  exact ⟨x0, x1, x2, a.below hb a.1, b.below hb, c.below hb, d.below hb⟩
theorem ListAt.below {sub : World → Nat → Prop} (hs : ∀ {w w' : World} {g : Nat}, sub w g → Below w.heap.size w w' → sub w' g) {w w' : World} {x : PartV} {num pg tg ofF n : Nat} (h : ListAt sub w x num pg tg ofF n) (hb : Below w.heap.size w w') : ListAt sub w' x num pg tg ofF n := by
  obtain ⟨bo, bn, bp, gp, cap, hx, a, b, c, d⟩ := h
  exact ⟨bo, bn, bp, gp, cap, hx, a.below hb, b.below hb, c.below hb, hs d hb⟩
/-- The part of a payload of a number. -/
def PayPart (w : World) : Nat → PartV → Prop
  | 0, x => SingleAt w x 1 2 137 138 80 107 108
  | 1, x => SingleAt w x 2 0 140 141 82 110 111
  | 2, x => SingleAt w x 3 2 137 138 83 107 108
  | 3, x => ListAt RuleParts w x 4 112 114 85 2
  | 4, x => SingleAt w x 5 0 140 141 87 110 111
  | 5, x => SingleAt w x 6 2 137 138 88 107 108
  | 6, x => ListAt AddrParts w x 7 119 121 90 3
  | 7, x => SingleAt w x 8 2 137 138 92 107 108
  | _, _ => False
theorem PayPart.below {w w' : World} {i : Nat} {x : PartV} (h : PayPart w i x) (hb : Below w.heap.size w w') : PayPart w' i x := by
  match i, h with
  | 0, h => exact SingleAt.below h hb
  | 1, h => exact SingleAt.below h hb
  | 2, h => exact SingleAt.below h hb
  | 3, h => exact ListAt.below (fun a b => a.below b) h hb
  | 4, h => exact SingleAt.below h hb
  | 5, h => exact SingleAt.below h hb
  | 6, h => exact ListAt.below (fun a b => a.below b) h hb
  | 7, h => exact SingleAt.below h hb
  | _ + 8, h => exact h.elim
theorem PayPart.num {w : World} {i : Nat} {x : PartV} (h : PayPart w i x) : x.num = i + 1 ∧ x.kind = plKind i ∧ i < 8 := by
  match i, h with
  | 0, h => obtain ⟨_, _, _, _, rfl, _⟩ := h; exact ⟨rfl, rfl, by omega⟩
  | 1, h => obtain ⟨_, _, _, _, rfl, _⟩ := h; exact ⟨rfl, rfl, by omega⟩
  | 2, h => obtain ⟨_, _, _, _, rfl, _⟩ := h; exact ⟨rfl, rfl, by omega⟩
  | 3, h => obtain ⟨_, _, _, _, _, rfl, _⟩ := h; exact ⟨rfl, rfl, by omega⟩
  | 4, h => obtain ⟨_, _, _, _, rfl, _⟩ := h; exact ⟨rfl, rfl, by omega⟩
  | 5, h => obtain ⟨_, _, _, _, rfl, _⟩ := h; exact ⟨rfl, rfl, by omega⟩
  | 6, h => obtain ⟨_, _, _, _, _, rfl, _⟩ := h; exact ⟨rfl, rfl, by omega⟩
  | 7, h => obtain ⟨_, _, _, _, rfl, _⟩ := h; exact ⟨rfl, rfl, by omega⟩
  | _ + 8, h => exact h.elim

/-! ### What a part puts -/
theorem str_if {s : ByteArray} {num : Int} : (if s.size = 0 then (⟨#[]⟩ : ByteArray) else ⟨(textL num s).toArray⟩) = ⟨(txtL num s).toArray⟩ := by unfold txtL; split <;> rfl
theorem num_if {n : Nat} {num : Int} : (if n = 0 then (⟨#[]⟩ : ByteArray) else ⟨(numberL num n).toArray⟩) = ⟨(nmbL num n).toArray⟩ := by unfold nmbL; split <;> rfl
theorem putsRule_0 {w : World} {x : PartV} {B : Nat} {b : Addr} {s : ByteArray} (hg : Gv b w) (hx : SingleAt w x 1 2 160 161 117 107 144) (hB : B < w.heap.size) (hc : w.cell? ⟨B, 0, none⟩ = some (.string s)) (hs : s.size ≤ 140737488355328) :
    PutsAs w.heap.size B w x (txtL 1 s) := by
  obtain ⟨bo, bp, bn, bv, rfl, a, b1, c, d⟩ := hx
  refine ⟨enters_of Tryz.func160 (by kernel_rfl) rfl, fun W hb => ?_⟩
  have h := putRule_0 B bo bp bn 1 s b W (hg.below hb) hs (a.below hb).2 (b1.below hb).2 (c.below hb).2 ((hb.cell (p := ⟨B, 0, none⟩) hB).trans hc)
  rw [str_if] at h
  exact h
theorem putsRule_1 {w : World} {x : PartV} {B : Nat} {b : Addr} {s : ByteArray} (hg : Gv b w) (hx : SingleAt w x 2 2 160 161 118 107 144) (hB : B < w.heap.size) (hc : w.cell? ⟨B, 1, none⟩ = some (.string s)) (hs : s.size ≤ 140737488355328) :
    PutsAs w.heap.size B w x (txtL 2 s) := by
  obtain ⟨bo, bp, bn, bv, rfl, a, b1, c, d⟩ := hx
  refine ⟨enters_of Tryz.func160 (by kernel_rfl) rfl, fun W hb => ?_⟩
  have h := putRule_1 B bo bp bn 2 s b W (hg.below hb) hs (a.below hb).2 (b1.below hb).2 (c.below hb).2 ((hb.cell (p := ⟨B, 1, none⟩) hB).trans hc)
  rw [str_if] at h
  exact h
theorem putsAddr_0 {w : World} {x : PartV} {B : Nat} {b : Addr} {s : ByteArray} (hg : Gv b w) (hx : SingleAt w x 1 2 162 163 124 107 147) (hB : B < w.heap.size) (hc : w.cell? ⟨B, 0, none⟩ = some (.string s)) (hs : s.size ≤ 140737488355328) :
    PutsAs w.heap.size B w x (txtL 1 s) := by
  obtain ⟨bo, bp, bn, bv, rfl, a, b1, c, d⟩ := hx
  refine ⟨enters_of Tryz.func162 (by kernel_rfl) rfl, fun W hb => ?_⟩
  have h := putAddr_0 B bo bp bn 1 s b W (hg.below hb) hs (a.below hb).2 (b1.below hb).2 (c.below hb).2 ((hb.cell (p := ⟨B, 0, none⟩) hB).trans hc)
  rw [str_if] at h
  exact h
theorem putsAddr_1 {w : World} {x : PartV} {B : Nat} {b : Addr} {n : Nat} (hg : Gv b w) (hx : SingleAt w x 2 0 164 165 126 110 149) (hB : B < w.heap.size) (hc : w.cell? ⟨B, 1, none⟩ = some (.int .u64 (n : Int))) (hs : n < 2 ^ 64) :
    PutsAs w.heap.size B w x (nmbL 2 n) := by
  obtain ⟨bo, bp, bn, bv, rfl, a, b1, c, d⟩ := hx
  refine ⟨enters_of Tryz.func164 (by kernel_rfl) rfl, fun W hb => ?_⟩
  have h := putAddr_1 B bo bp bn 2 n b W (hg.below hb) hs (a.below hb).2 (b1.below hb).2 (c.below hb).2 ((hb.cell (p := ⟨B, 1, none⟩) hB).trans hc)
  rw [num_if] at h
  exact h
theorem putsAddr_2 {w : World} {x : PartV} {B : Nat} {b : Addr} {n : Nat} (hg : Gv b w) (hx : SingleAt w x 3 0 164 165 127 110 149) (hB : B < w.heap.size) (hc : w.cell? ⟨B, 2, none⟩ = some (.int .u64 (n : Int))) (hs : n < 2 ^ 64) :
    PutsAs w.heap.size B w x (nmbL 3 n) := by
  obtain ⟨bo, bp, bn, bv, rfl, a, b1, c, d⟩ := hx
  refine ⟨enters_of Tryz.func164 (by kernel_rfl) rfl, fun W hb => ?_⟩
  have h := putAddr_2 B bo bp bn 3 n b W (hg.below hb) hs (a.below hb).2 (b1.below hb).2 (c.below hb).2 ((hb.cell (p := ⟨B, 2, none⟩) hB).trans hc)
  rw [num_if] at h
  exact h
theorem putsPayload_0 {w : World} {x : PartV} {B : Nat} {b : Addr} {s : ByteArray} (hg : Gv b w) (hx : SingleAt w x 1 2 137 138 80 107 108) (hB : B < w.heap.size) (hc : w.cell? ⟨B, 0, none⟩ = some (.string s)) (hs : s.size ≤ 140737488355328) :
    PutsAs w.heap.size B w x (txtL 1 s) := by
  obtain ⟨bo, bp, bn, bv, rfl, a, b1, c, d⟩ := hx
  refine ⟨enters_of Tryz.func137 (by kernel_rfl) rfl, fun W hb => ?_⟩
  have h := putPayload_0 B bo bp bn 1 s b W (hg.below hb) hs (a.below hb).2 (b1.below hb).2 (c.below hb).2 ((hb.cell (p := ⟨B, 0, none⟩) hB).trans hc)
  rw [str_if] at h
  exact h
theorem putsPayload_1 {w : World} {x : PartV} {B : Nat} {b : Addr} {n : Nat} (hg : Gv b w) (hx : SingleAt w x 2 0 140 141 82 110 111) (hB : B < w.heap.size) (hc : w.cell? ⟨B, 1, none⟩ = some (.int .u64 (n : Int))) (hs : n < 2 ^ 64) :
    PutsAs w.heap.size B w x (nmbL 2 n) := by
  obtain ⟨bo, bp, bn, bv, rfl, a, b1, c, d⟩ := hx
  refine ⟨enters_of Tryz.func140 (by kernel_rfl) rfl, fun W hb => ?_⟩
  have h := putPayload_1 B bo bp bn 2 n b W (hg.below hb) hs (a.below hb).2 (b1.below hb).2 (c.below hb).2 ((hb.cell (p := ⟨B, 1, none⟩) hB).trans hc)
  rw [num_if] at h
  exact h
theorem putsPayload_2 {w : World} {x : PartV} {B : Nat} {b : Addr} {s : ByteArray} (hg : Gv b w) (hx : SingleAt w x 3 2 137 138 83 107 108) (hB : B < w.heap.size) (hc : w.cell? ⟨B, 2, none⟩ = some (.string s)) (hs : s.size ≤ 140737488355328) :
    PutsAs w.heap.size B w x (txtL 3 s) := by
  obtain ⟨bo, bp, bn, bv, rfl, a, b1, c, d⟩ := hx
  refine ⟨enters_of Tryz.func137 (by kernel_rfl) rfl, fun W hb => ?_⟩
  have h := putPayload_2 B bo bp bn 3 s b W (hg.below hb) hs (a.below hb).2 (b1.below hb).2 (c.below hb).2 ((hb.cell (p := ⟨B, 2, none⟩) hB).trans hc)
  rw [str_if] at h
  exact h
theorem putsPayload_4 {w : World} {x : PartV} {B : Nat} {b : Addr} {n : Nat} (hg : Gv b w) (hx : SingleAt w x 5 0 140 141 87 110 111) (hB : B < w.heap.size) (hc : w.cell? ⟨B, 4, none⟩ = some (.int .u64 (n : Int))) (hs : n < 2 ^ 64) :
    PutsAs w.heap.size B w x (nmbL 5 n) := by
  obtain ⟨bo, bp, bn, bv, rfl, a, b1, c, d⟩ := hx
  refine ⟨enters_of Tryz.func140 (by kernel_rfl) rfl, fun W hb => ?_⟩
  have h := putPayload_4 B bo bp bn 5 n b W (hg.below hb) hs (a.below hb).2 (b1.below hb).2 (c.below hb).2 ((hb.cell (p := ⟨B, 4, none⟩) hB).trans hc)
  rw [num_if] at h
  exact h
theorem putsPayload_5 {w : World} {x : PartV} {B : Nat} {b : Addr} {s : ByteArray} (hg : Gv b w) (hx : SingleAt w x 6 2 137 138 88 107 108) (hB : B < w.heap.size) (hc : w.cell? ⟨B, 5, none⟩ = some (.string s)) (hs : s.size ≤ 140737488355328) :
    PutsAs w.heap.size B w x (txtL 6 s) := by
  obtain ⟨bo, bp, bn, bv, rfl, a, b1, c, d⟩ := hx
  refine ⟨enters_of Tryz.func137 (by kernel_rfl) rfl, fun W hb => ?_⟩
  have h := putPayload_5 B bo bp bn 6 s b W (hg.below hb) hs (a.below hb).2 (b1.below hb).2 (c.below hb).2 ((hb.cell (p := ⟨B, 5, none⟩) hB).trans hc)
  rw [str_if] at h
  exact h
theorem putsPayload_7 {w : World} {x : PartV} {B : Nat} {b : Addr} {s : ByteArray} (hg : Gv b w) (hx : SingleAt w x 8 2 137 138 92 107 108) (hB : B < w.heap.size) (hc : w.cell? ⟨B, 7, none⟩ = some (.string s)) (hs : s.size ≤ 140737488355328) :
    PutsAs w.heap.size B w x (txtL 8 s) := by
  obtain ⟨bo, bp, bn, bv, rfl, a, b1, c, d⟩ := hx
  refine ⟨enters_of Tryz.func137 (by kernel_rfl) rfl, fun W hb => ?_⟩
  have h := putPayload_7 B bo bp bn 8 s b W (hg.below hb) hs (a.below hb).2 (b1.below hb).2 (c.below hb).2 ((hb.cell (p := ⟨B, 7, none⟩) hB).trans hc)
  rw [str_if] at h
  exact h

/-! ### A value as it stands in memory -/
def VRule (w : World) (B : Nat) (r : Rl) : Prop := B < w.heap.size ∧ w.cell? ⟨B, 0, none⟩ = some (.string r.pre) ∧ w.cell? ⟨B, 1, none⟩ = some (.string r.clu)
def VAddr (w : World) (B : Nat) (a : Ad) : Prop := B < w.heap.size ∧ w.cell? ⟨B, 0, none⟩ = some (.string a.host) ∧ w.cell? ⟨B, 1, none⟩ = some (.int .u64 (a.port : Int)) ∧ w.cell? ⟨B, 2, none⟩ = some (.int .u64 (a.wt : Int))
theorem new_cell (w : World) (cs : Array Value) (t : TypeId) (j : Nat) : (w.alloc (.cells cs t)).cell? ⟨w.heap.size, j, none⟩ = cs[j]? := Lib.cell_of_heap (World.alloc_heap_new w _) j
theorem Rl.all_eq (r : Rl) : r.all = txtL 1 r.pre ++ txtL 2 r.clu := by simp [Rl.all, Rl.put]
theorem Ad.all_eq (a : Ad) : a.all = txtL 1 a.host ++ (nmbL 2 a.port ++ nmbL 3 a.wt) := by simp [Ad.all, Ad.put]
theorem textL_len {num : Int} (s : ByteArray) (h : numB num = true) : s.size ≤ (textL num s).length := by
  simp only [textL, h, if_true, putL]
  have : s.data.toList.length = s.size := by simp
  simp; omega
theorem txtL_len {num : Int} (s : ByteArray) (h : numB num = true) : s.size ≤ (txtL num s).length := by
  unfold txtL; split
  · omega
  · exact textL_len s h

theorem ruleAll_any (r : Rl) (g cap : Nat) (b : Addr) (w : World) (hg : Gv b w) (hx : RuleParts w g) (hs : r.all.length ≤ 140737488355328) :
    Calls Tryz.prog 113 #[.slice (some ⟨g, 0, none⟩) 2 cap, .agg #[.string r.pre, .string r.clu]] w fun e w' => e = .returned (.string ⟨r.all.toArray⟩) ∧ Below w.heap.size w w' := by
  have hx2 := hx.below ((Below.refl _ _).alloc (Nat.le_refl _) (.cells #[.string r.pre, .string r.clu] 42))
  obtain ⟨x0, x1, hp, h0, h1⟩ := hx
  have hg2 := hg.alloc (.cells #[.string r.pre, .string r.clu] 42)
  have up := (Below.refl w.heap.size w).alloc (Nat.le_refl _) (.cells #[.string r.pre, .string r.clu] 42)
  rw [Rl.all_eq, List.length_append] at hs
  have l0 := txtL_len (num := 1) r.pre (by decide)
  have l1 := txtL_len (num := 2) r.clu (by decide)
  have p0 := putsRule_0 hg2 (h0.below up) (B := w.heap.size) (s := r.pre) (by simp) ((new_cell w _ _ 0).trans rfl) (by omega)
  have p1 := putsRule_1 hg2 (h1.below up) (B := w.heap.size) (s := r.clu) (by simp) ((new_cell w _ _ 1).trans rfl) (by omega)
  rw [World.size_alloc] at p0 p1
  have h := putAllRule_any g cap [x0, x1] [txtL 1 r.pre, txtL 2 r.clu] r.pre r.clu w rfl (by simp) hp (fun i x t hi ht => by
    match i with
    | 0 => simp at hi ht; subst hi; subst ht; exact p0
    | 1 => simp at hi ht; subst hi; subst ht; exact p1
    | i + 2 => simp at hi) (by simp; omega)
  rw [Rl.all_eq]
  simpa using h
theorem addrAll_any (a : Ad) (g cap : Nat) (b : Addr) (w : World) (hg : Gv b w) (hx : AddrParts w g) (hs : a.all.length ≤ 140737488355328) (hp64 : a.port < 2 ^ 64) (hw64 : a.wt < 2 ^ 64) :
    Calls Tryz.prog 120 #[.slice (some ⟨g, 0, none⟩) 3 cap, .agg #[.string a.host, .int .u64 (a.port : Int), .int .u64 (a.wt : Int)]] w fun e w' => e = .returned (.string ⟨a.all.toArray⟩) ∧ Below w.heap.size w w' := by
  obtain ⟨x0, x1, x2, hp, h0, h1, h2⟩ := hx
  have hg2 := hg.alloc (.cells #[.string a.host, .int .u64 (a.port : Int), .int .u64 (a.wt : Int)] 44)
  have up := (Below.refl w.heap.size w).alloc (Nat.le_refl _) (.cells #[.string a.host, .int .u64 (a.port : Int), .int .u64 (a.wt : Int)] 44)
  rw [Ad.all_eq, List.length_append, List.length_append] at hs
  have l0 := txtL_len (num := 1) a.host (by decide)
  have p0 := putsAddr_0 hg2 (h0.below up) (B := w.heap.size) (s := a.host) (by simp) ((new_cell w _ _ 0).trans rfl) (by omega)
  have p1 := putsAddr_1 hg2 (h1.below up) (B := w.heap.size) (n := a.port) (by simp) ((new_cell w _ _ 1).trans rfl) hp64
  have p2 := putsAddr_2 hg2 (h2.below up) (B := w.heap.size) (n := a.wt) (by simp) ((new_cell w _ _ 2).trans rfl) hw64
  rw [World.size_alloc] at p0 p1 p2
  have h := putAllAddr_any g cap [x0, x1, x2] [txtL 1 a.host, nmbL 2 a.port, nmbL 3 a.wt] a.host a.port a.wt w rfl (by simp) hp (fun i x t hi ht => by
    match i with
    | 0 => simp at hi ht; subst hi; subst ht; exact p0
    | 1 => simp at hi ht; subst hi; subst ht; exact p1
    | 2 => simp at hi ht; subst hi; subst ht; exact p2
    | i + 3 => simp at hi) (by simp; omega)
  rw [Ad.all_eq]
  simpa using h
end Go.Proofs.YtngceccpebdgmaaGreatDoor
