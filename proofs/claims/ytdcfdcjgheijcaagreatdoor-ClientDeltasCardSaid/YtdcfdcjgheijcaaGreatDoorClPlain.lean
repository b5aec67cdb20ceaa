/- client: a client as a value, and in memory. -/
import Derived.Test.YtdcfdcjgheijcaaGreatDoorNmSet
import Derived.Test.YtdcfdcjgheijcaaGreatDoorNmLater
import Derived.Test.YtdcfdcjgheijcaaGreatDoorClIs
namespace Go.Proofs.YtdcfdcjgheijcaaGreatDoor
open Go.RowKit Go.Lib

/-- A topic: what is wanted, and where its names lie; whether it was asked for; the last nonce. -/
structure Tp where
  all : Bool
  a : Option Addr
  c : Nat
  l : List (List UInt8)
  op : Bool
  q : Nat
def Tp.zero : Tp := ⟨false, none, 0, [], false, 0⟩
def Tp.At (w : World) (t : Tp) : Prop := TsAt w (.slice t.a t.l.length t.c) t.l
theorem Tp.At.later {w w' : World} {t : Tp} (h : t.At w) (hb : Below w.heap.size w w') : t.At w' := TsAt.later h hb
theorem Tp.zero_at (w : World) : Tp.zero.At w := RowV.nil _ _ _ (Nat.zero_le _)
abbrev Tp.cells (t : Tp) : Array Value := #[.bool t.all, .slice t.a t.l.length t.c, .bool t.op, .int .u64 (t.q : Int)]
/-- A client: whether it is of Delta, and its six topics. -/
structure Cl where
  d : Bool
  t0 : Tp
  t1 : Tp
  t2 : Tp
  t3 : Tp
  t4 : Tp
  t5 : Tp
def Cl.get (x : Cl) : Nat → Tp
  | 0 => x.t0 | 1 => x.t1 | 2 => x.t2 | 3 => x.t3 | 4 => x.t4 | _ => x.t5
def Cl.set (x : Cl) (t : Tp) : Nat → Cl
  | 0 => { x with t0 := t } | 1 => { x with t1 := t } | 2 => { x with t2 := t } | 3 => { x with t3 := t } | 4 => { x with t4 := t } | _ => { x with t5 := t }
def Cl.new (d : Bool) : Cl := ⟨d, .zero, .zero, .zero, .zero, .zero, .zero⟩
theorem Cl.set_d (x : Cl) (t : Tp) (k : Nat) : (x.set t k).d = x.d := by
  match k with
  | 0 | 1 | 2 | 3 | 4 => rfl
  | k + 5 => rfl
theorem Cl.get_set (x : Cl) (t : Tp) (k : Nat) : (x.set t k).get k = t := by
  match k with
  | 0 | 1 | 2 | 3 | 4 => rfl
  | k + 5 => rfl
theorem Cl.get_other (x : Cl) (t : Tp) {k m : Nat} (h : k ≠ m) (hk : k < 6) (hm : m < 6) : (x.set t k).get m = x.get m := by
  match k, m with
  | 0, 0 | 1, 1 | 2, 2 | 3, 3 | 4, 4 | 5, 5 => exact absurd rfl h
  | 0, 1 | 0, 2 | 0, 3 | 0, 4 | 0, 5 | 1, 0 | 1, 2 | 1, 3 | 1, 4 | 1, 5 | 2, 0 | 2, 1 | 2, 3 | 2, 4 | 2, 5 | 3, 0 | 3, 1 | 3, 2 | 3, 4 | 3, 5 | 4, 0 | 4, 1 | 4, 2 | 4, 3 | 4, 5 | 5, 0 | 5, 1 | 5, 2 | 5, 3 | 5, 4 => rfl
  | k + 6, _ => omega
  | _, m + 6 => omega
theorem Cl.new_get (d : Bool) (k : Nat) : (Cl.new d).get k = Tp.zero := by
  match k with
  | 0 | 1 | 2 | 3 | 4 => rfl
  | k + 5 => rfl
def Cl.arr (x : Cl) : Array Value := #[.bool x.d, .bool x.t0.all, .slice x.t0.a x.t0.l.length x.t0.c, .bool x.t0.op, .int .u64 (x.t0.q : Int), .bool x.t1.all, .slice x.t1.a x.t1.l.length x.t1.c, .bool x.t1.op, .int .u64 (x.t1.q : Int),
  .bool x.t2.all, .slice x.t2.a x.t2.l.length x.t2.c, .bool x.t2.op, .int .u64 (x.t2.q : Int), .bool x.t3.all, .slice x.t3.a x.t3.l.length x.t3.c, .bool x.t3.op, .int .u64 (x.t3.q : Int),
  .bool x.t4.all, .slice x.t4.a x.t4.l.length x.t4.c, .bool x.t4.op, .int .u64 (x.t4.q : Int), .bool x.t5.all, .slice x.t5.a x.t5.l.length x.t5.c, .bool x.t5.op, .int .u64 (x.t5.q : Int)]
abbrev Cl.v (x : Cl) : Value := .agg x.arr
abbrev CT : TypeId := 72
theorem Cl.at0 (x : Cl) : x.arr[0]? = some (.bool x.d) := rfl
theorem Cl.at (x : Cl) {k : Nat} (h : k < 6) : x.arr[1 + k * 4]? = some (.bool (x.get k).all) ∧ x.arr[1 + k * 4 + 1]? = some (.slice (x.get k).a (x.get k).l.length (x.get k).c) ∧ x.arr[1 + k * 4 + 2]? = some (.bool (x.get k).op) ∧ x.arr[1 + k * 4 + 3]? = some (.int .u64 ((x.get k).q : Int)) := by
  match k with
  | 0 | 1 | 2 | 3 | 4 | 5 => exact ⟨rfl, rfl, rfl, rfl⟩
  | k + 6 => omega
theorem Cl.arr_set (x : Cl) (t : Tp) {k : Nat} (h : k < 6) : (((x.arr.setIfInBounds (1 + k * 4) (.bool t.all)).setIfInBounds (1 + k * 4 + 1) (.slice t.a t.l.length t.c)).setIfInBounds (1 + k * 4 + 2) (.bool t.op)).setIfInBounds (1 + k * 4 + 3) (.int .u64 (t.q : Int)) = (x.set t k).arr := by
  match k with
  | 0 | 1 | 2 | 3 | 4 | 5 => rfl
  | k + 6 => omega

/-- But for block b, all is as it was. -/
structure Just (b : Nat) (w w' : World) : Prop where
  os : w'.os = w.os
  tape : w'.tape = w.tape
  output : w'.output = w.output
  size : w'.heap.size = w.heap.size
  block : ∀ k, k ≠ b → w'.heap[k]? = w.heap[k]?
theorem Just.below {b n : Nat} {w w' : World} (h : Just b w w') (hn : n ≤ b) : Below n w w' := ⟨h.os, h.tape, h.output, by rw [h.size]; exact Nat.le_refl _, fun k hk => h.block k (by omega)⟩
theorem Just.blk {b k : Nat} {w w' : World} {c : Array Value} {t : TypeId} (h : Just b w w') (hk : k ≠ b) (hb : Blk w k c t) : Blk w' k c t := (h.block k hk).trans hb
theorem Just.own {b base size n : Nat} {w w' : World} {e : TypeId} {v : Value} {xs : List Value} (h : Just b w w') (hb : b < base) (ho : w.ownsRow base e size v n xs) : w'.ownsRow base e size v n xs := by
  refine ⟨ho.1, ?_⟩
  rcases ho.2 with hn | ⟨g, cap, cur, rfl, hg, hh, rest⟩
  · exact .inl hn
  · exact .inr ⟨g, cap, cur, rfl, hg, (h.block g (by omega)).trans hh, rest⟩
/-- Texts none of which stands in that block. -/
theorem Just.ts {b : Nat} {w w' : World} {v : Value} {l : List (List UInt8)} {cs : Array Value} {t : TypeId} (h : Just b w w') (hb : Blk w b cs t) (hno : ∀ u ∈ cs.toList, ∀ x ∈ l, u ≠ encStr x) (ht : TsAt w v l) : TsAt w' v l := by
  obtain ⟨a, c, e, h1, h2, h3⟩ := ht
  refine ⟨a, c, e, h1, h2, fun j u hj => ?_⟩
  obtain ⟨g, off, ea, hg, hc⟩ := h3 j u hj
  refine ⟨g, off, ea, by rw [h.size]; exact hg, ?_⟩
  have hne : g ≠ b := by
    rintro rfl
    rw [hb.cell (off + j)] at hc
    have hm : u ∈ cs.toList := by
      obtain ⟨hlt, rfl⟩ := Array.getElem?_eq_some_iff.1 hc
      exact Array.getElem_mem_toList hlt
    have hlt : j < l.length := by
      have := (List.getElem?_eq_some_iff.1 hj).1
      rwa [tsV_len] at this
    have e2 := (tsV_get l j hlt).symm.trans hj
    injection e2 with e2
    exact hno u hm l[j] (List.getElem_mem _) e2.symm
  rw [← hc]
  unfold World.cell?
  rw [h.block g hne]
theorem row_new {w : World} {b : Nat} {c : Array Value} {t : TypeId} (hb : Blk w b c t) (c' : Array Value) : ∃ w', w.setRow b c' = w' ∧ Blk w' b c' t ∧ Just b w w' :=
  ⟨_, rfl, setRow_heap w b c c' t (0, 0) hb, rfl, rfl, rfl, setRow_size w b c', fun k hk => setRow_other w b k c' hk⟩
theorem set_new {w : World} {b : Nat} {c : Array Value} {t : TypeId} (hb : Blk w b c t) (j : Nat) (v : Value) : ∃ w', w.setCell ⟨b, j, none⟩ v = w' ∧ Blk w' b (c.setIfInBounds j v) t ∧ Just b w w' := by
  refine ⟨_, rfl, hb.set j v, ?_⟩
  have hg := grown_set w b j v
  exact ⟨hg.os, hg.tape, hg.output, by simp [World.setCell], fun k hk => by
    show (w.heap.modify b _)[k]? = _
    rw [Array.getElem?_modify, if_neg (fun e => hk e.symm)]⟩

theorem alloc_sized (w : World) (cs : Array Value) (t : TypeId) : ∃ w', w.alloc (.cells cs t) = w' ∧ Below w.heap.size w w' ∧ Blk w' w.heap.size cs t ∧ w'.heap.size = w.heap.size + 1 := by
  obtain ⟨w', h1, h2, h3⟩ := alloc_new w cs t
  exact ⟨w', h1, h2, h3, by rw [← h1]; simp⟩
abbrev RT : TypeId := 45
theorem Tryz.infoRq : (Tryz.prog.info? RT).map (·.size) = some 7 := by kernel_rfl
/-- A request: its type, whether of Delta, nonce, what more, what less, what is had, a detail. -/
abbrev rq (k : Nat) (d : Bool) (q : Nat) (su un ha : Value) (s : ByteArray) : Array Value := #[.int .i64 (k : Int), .bool d, .int .u64 (q : Int), su, un, ha, .string s]
abbrev rq0 : Array Value := #[.int .i64 0, .bool false, .int .u64 0, .slice none 0 0, .slice none 0 0, .slice none 0 0, .string ⟨#[]⟩]
theorem Tryz.infoCl : (Tryz.prog.info? CT).map (·.size) = some 25 := by kernel_rfl
theorem Cl.one (x : Cl) : x.arr.all (·.oneCell') = true := by simp [Cl.arr, Value.oneCell']
section
variable {Q : Exit → Act → World → Prop} {a : Act} {w : World} {ops : Array Oper} {rest : List Oper} {o : Oper} {K : Act → World → Prop}
theorem wp_load_cl (x : Operand) (c : Cl) (b : Nat) (ho : o.op = .load CT x) (hx : a.eval x = .pointer (some ⟨b, 0, none⟩)) (hb : Blk w b c.arr CT) (h : K (a.put o.dst (.agg c.arr)) w) : o.wp Tryz.prog a w K Q :=
  wp_load_row CT x ho b hx CT c.arr (0, 0) _ hb Tryz.underlying72 rfl Tryz.infoCl h
theorem run_load_cl (c : Cl) (b : Nat) (hb : Blk w b c.arr CT) : (loadVar CT ⟨b, 0, none⟩).run Tryz.prog w = .ok (.agg c.arr) w :=
  run_loadVar_row w b CT CT c.arr (0, 0) _ hb Tryz.underlying72 rfl Tryz.infoCl
theorem wp_store_cl (x y : Operand) (c0 c : Cl) (b : Nat) (ho : o.op = .store CT x y) (hx : a.eval x = .pointer (some ⟨b, 0, none⟩)) (hy : a.eval y = .agg c.arr) (hb : Blk w b c0.arr CT) (h : ∀ w', Blk w' b c.arr CT → Just b w w' → K (a.put o.dst undef) w') : o.wp Tryz.prog a w K Q := by
  obtain ⟨w', e, h1, h2⟩ := row_new hb c.arr
  refine wp_store_row CT x y ho b c.arr hx hy CT c0.arr hb Tryz.infoCl rfl c.one ?_
  rw [e]; exact h w' h1 h2
theorem wpList_load_cl (x : Operand) (c : Cl) (b : Nat) (hg : o.guard = none) (ho : o.op = .load CT x) (hx : a.eval x = .pointer (some ⟨b, 0, none⟩)) (hb : Blk w b c.arr CT) (h : wpList Tryz.prog ops Q rest (a.put o.dst (.agg c.arr)) w) : wpList Tryz.prog ops Q (o :: rest) a w :=
  wpList_plain hg fun _ hK => wp_load_cl x c b ho hx hb (hK _ _ h)
theorem wpList_store_cl (x y : Operand) (c0 c : Cl) (b : Nat) (hg : o.guard = none) (ho : o.op = .store CT x y) (hx : a.eval x = .pointer (some ⟨b, 0, none⟩)) (hy : a.eval y = .agg c.arr) (hb : Blk w b c0.arr CT) (h : ∀ w', Blk w' b c.arr CT → Just b w w' → wpList Tryz.prog ops Q rest (a.put o.dst undef) w') : wpList Tryz.prog ops Q (o :: rest) a w :=
  wpList_plain hg fun _ hK => wp_store_cl x y c0 c b ho hx hy hb (fun w' h1 h2 => hK _ _ (h w' h1 h2))
theorem wp_load_rq (x : Operand) (b : Nat) {cs : Array Value} (ho : o.op = .load RT x) (hx : a.eval x = .pointer (some ⟨b, 0, none⟩)) (hb : Blk w b cs RT) (hz : cs.size = 7) (h : K (a.put o.dst (.agg cs)) w) : o.wp Tryz.prog a w K Q :=
  wp_load_row RT x ho b hx RT cs (0, 0) _ hb Tryz.underlying45 rfl (by rw [hz]; exact Tryz.infoRq) h
theorem wp_store_rq (x y : Operand) (b : Nat) {cs0 cs : Array Value} (ho : o.op = .store RT x y) (hx : a.eval x = .pointer (some ⟨b, 0, none⟩)) (hy : a.eval y = .agg cs) (hb : Blk w b cs0 RT) (hz0 : cs0.size = 7) (hz : cs.size = 7) (h1 : cs.all (·.oneCell') = true) (h : ∀ w', Blk w' b cs RT → Just b w w' → K (a.put o.dst undef) w') : o.wp Tryz.prog a w K Q := by
  obtain ⟨w', e, h2, h3⟩ := row_new hb cs
  refine wp_store_row RT x y ho b cs hx hy RT cs0 hb (by rw [hz]; exact Tryz.infoRq) (by rw [hz, hz0]) h1 ?_
  rw [e]; exact h w' h2 h3
theorem wpList_load_rq (x : Operand) (b : Nat) {cs : Array Value} (hg : o.guard = none) (ho : o.op = .load RT x) (hx : a.eval x = .pointer (some ⟨b, 0, none⟩)) (hb : Blk w b cs RT) (hz : cs.size = 7) (h : wpList Tryz.prog ops Q rest (a.put o.dst (.agg cs)) w) : wpList Tryz.prog ops Q (o :: rest) a w :=
  wpList_plain hg fun _ hK => wp_load_rq x b ho hx hb hz (hK _ _ h)
theorem wpList_store_rq (x y : Operand) (b : Nat) {cs0 cs : Array Value} (hg : o.guard = none) (ho : o.op = .store RT x y) (hx : a.eval x = .pointer (some ⟨b, 0, none⟩)) (hy : a.eval y = .agg cs) (hb : Blk w b cs0 RT) (hz0 : cs0.size = 7) (hz : cs.size = 7) (h1 : cs.all (·.oneCell') = true) (h : ∀ w', Blk w' b cs RT → Just b w w' → wpList Tryz.prog ops Q rest (a.put o.dst undef) w') : wpList Tryz.prog ops Q (o :: rest) a w :=
  wpList_plain hg fun _ hK => wp_store_rq x y b ho hx hy hb hz0 hz h1 (fun w' h2 h3 => hK _ _ (h w' h2 h3))
theorem run_load_rq {b : Nat} {cs : Array Value} (hb : Blk w b cs RT) (hz : cs.size = 7) : (loadVar RT ⟨b, 0, none⟩).run Tryz.prog w = .ok (.agg cs) w :=
  run_loadVar_row w b RT RT cs (0, 0) _ hb Tryz.underlying45 rfl (by rw [hz]; exact Tryz.infoRq)
end
end Go.Proofs.YtdcfdcjgheijcaaGreatDoor
