/- payload: how a list is put: the walks. -/
import Derived.Test.YtngceccpebdgmaaGreatDoorPlSing
import Derived.Deep.RegionHeld3
import Derived.Deep.DrawnRows
namespace Go.Proofs.YtngceccpebdgmaaGreatDoor
open Go.RowKit Go.Shelf
attribute [local go_sem ↓] Go.wp_at_zero Go.wp_at_succ

def RulesAt (w : World) (a : Option Addr) (rs : List Rl) : Prop := ∀ (i : Nat) (r : Rl), rs[i]? = some r → ∃ g off, a = some ⟨g, off, none⟩ ∧ g < w.heap.size ∧ w.cell? ⟨g, off + i * 2, none⟩ = some (.string r.pre) ∧ w.cell? ⟨g, off + i * 2 + 1, none⟩ = some (.string r.clu)
def AddrsAt (w : World) (a : Option Addr) (rs : List Ad) : Prop := ∀ (i : Nat) (r : Ad), rs[i]? = some r → ∃ g off, a = some ⟨g, off, none⟩ ∧ g < w.heap.size ∧ w.cell? ⟨g, off + i * 3, none⟩ = some (.string r.host) ∧ w.cell? ⟨g, off + i * 3 + 1, none⟩ = some (.int .u64 (r.port : Int)) ∧ w.cell? ⟨g, off + i * 3 + 2, none⟩ = some (.int .u64 (r.wt : Int))
theorem RulesAt.below {w w' : World} {a : Option Addr} {rs : List Rl} (h : RulesAt w a rs) (hb : Below w.heap.size w w') : RulesAt w' a rs := by
  intro i r hi
  obtain ⟨g, off, ha, hg, h1, h2⟩ := h i r hi
  exact ⟨g, off, ha, Nat.lt_of_lt_of_le hg hb.size, (hb.cell (p := ⟨g, _, none⟩) hg).trans h1, (hb.cell (p := ⟨g, _, none⟩) hg).trans h2⟩
theorem AddrsAt.below {w w' : World} {a : Option Addr} {rs : List Ad} (h : AddrsAt w a rs) (hb : Below w.heap.size w w') : AddrsAt w' a rs := by
  intro i r hi
  obtain ⟨g, off, ha, hg, h1, h2, h3⟩ := h i r hi
  exact ⟨g, off, ha, Nat.lt_of_lt_of_le hg hb.size, (hb.cell (p := ⟨g, _, none⟩) hg).trans h1, (hb.cell (p := ⟨g, _, none⟩) hg).trans h2, (hb.cell (p := ⟨g, _, none⟩) hg).trans h3⟩

/-- What the round's calls find: all of it stays while memory alone is made. -/
structure LCtx (sub : World → Nat → Prop) (b : Addr) (bn bp gp n cap E B0 : Nat) (num : Int) (cs : Array Value) (T : TypeId) (acc : List Value) (w0 w : World) : Prop where
  gv : Gv b w
  parts : sub w gp
  bn : Box w bn (.int .i64 num)
  bp : Box w bp (.slice (some ⟨gp, 0, none⟩) n cap)
  e : w.heap[E]? = some (.cells cs T (0, 0))
  bld : Lib.IsBuilder 121 5 B0 B0 acc w
  low : Below B0 w0 w
def Stays (sub : World → Nat → Prop) : Prop := ∀ (w w' : World) (g : Nat), sub w g → Below w.heap.size w w' → sub w' g
theorem stays_Rule : Stays RuleParts := fun _ _ _ h hb => h.below hb
theorem stays_Addr : Stays AddrParts := fun _ _ _ h hb => h.below hb
theorem LCtx.next {sub : World → Nat → Prop} (hs : Stays sub) {b : Addr} {bn bp gp n cap E B0 : Nat} {num : Int} {cs : Array Value} {T : TypeId} {acc : List Value} {w0 w w' : World} (h : LCtx sub b bn bp gp n cap E B0 num cs T acc w0 w) (hb : Below w.heap.size w w') (hB : B0 ≤ w.heap.size) : LCtx sub b bn bp gp n cap E B0 num cs T acc w0 w' :=
  ⟨h.gv.below hb, hs _ _ _ h.parts hb, h.bn.below hb, h.bp.below hb, (hb.block E (Array.getElem?_eq_some_iff.1 h.e).1).trans h.e, isBuilder_below h.bld hb, h.low.trans (hb.mono hB)⟩
theorem LCtx.drew {sub : World → Nat → Prop} (hs : Stays sub) {b : Addr} {bn bp gp n cap E B0 : Nat} {num : Int} {cs : Array Value} {T : TypeId} {acc : List Value} {w0 w : World} (h : LCtx sub b bn bp gp n cap E B0 num cs T acc w0 w) (hB : B0 ≤ w.heap.size) : LCtx sub b bn bp gp n cap E B0 num cs T acc w0 w.drew := h.next hs (Below.refl _ _).drew hB
theorem flat_succ {α : Type} {f : α → List UInt8} {rs : List α} {k : Nat} {r : α} (h : rs[k]? = some r) : (rs.take (k + 1)).flatMap f = (rs.take k).flatMap f ++ f r := by
  have hk := (List.getElem?_eq_some_iff.1 h)
  rw [List.take_succ_eq_append_getElem hk.1, List.flatMap_append, hk.2]; simp
theorem flat_le {α : Type} (f : α → List UInt8) (rs : List α) (k : Nat) : ((rs.take k).flatMap f).length ≤ (rs.flatMap f).length := by
  conv => rhs; rw [← List.take_append_drop k rs, List.flatMap_append]
  simp

theorem lctxS_Rule {b : Addr} {bn bp gp n cap E B0 : Nat} {num : Int} {T : TypeId} {acc : List Value} {w0 w' : World} {v0 v1 : Value} (h : LCtx RuleParts b bn bp gp n cap E B0 num #[v0, v1] T acc w0 w') :
    w'.cell? ⟨bn, 0, none⟩ = some (.int .i64 num) ∧ w'.cell? ⟨bp, 0, none⟩ = some (.slice (some ⟨gp, 0, none⟩) n cap) ∧ w'.cell? ⟨E, 0, none⟩ = some v0 ∧ w'.cell? ⟨E, 1, none⟩ = some v1 :=
  ⟨h.bn.2, h.bp.2, (Lib.cell_of_heap h.e 0).trans rfl, (Lib.cell_of_heap h.e 1).trans rfl⟩
set_option maxRecDepth 100000 in
set_option maxHeartbeats 2000000 in
theorem listRule_put (w : World) (B bo bn bp gp cap c : Nat) (a : Option Addr) (rs : List Rl) (b : Addr) (hg : Gv b w) (ho : Box w bo (.func (.func 85) #[] #[])) (hn : Box w bn (.int .i64 4)) (hp : Box w bp (.slice (some ⟨gp, 0, none⟩) 2 cap)) (hr : RuleParts w gp)
    (hB : B < w.heap.size) (hf : w.cell? ⟨B, 3, none⟩ = some (.slice a rs.length c)) (hrs : RulesAt w a rs) (hsz : (rs.flatMap fun r => textL 4 ⟨r.all.toArray⟩).length ≤ 140737488355328) (hlen : rs.length ≤ 140737488355328) :
    Calls Tryz.prog 112 #[.pointer (some ⟨B, 0, none⟩), .pointer (some ⟨bo, 0, none⟩), .pointer (some ⟨bn, 0, none⟩), .pointer (some ⟨bp, 0, none⟩)] w fun e w' => e = .returned (.string ⟨(rs.flatMap fun r => textL 4 ⟨r.all.toArray⟩).toArray⟩) ∧ Below w.heap.size w w' := by
  obtain ⟨n, hxn⟩ : ∃ n, rs.length = n := ⟨_, rfl⟩
  have HN := Lib.hid hxn
  rw [hxn] at hf hlen
  clear hxn
  have HS := Lib.hid hsz; clear hsz
  have HG := Lib.hid hg; clear hg
  have HR := Lib.hid hr; clear hr
  have HRS := Lib.hid hrs; clear hrs
  have HBn := Lib.hid hn; clear hn
  have HBp := Lib.hid hp; clear hp
  skip
  obtain ⟨hol, hoc⟩ := ho
  go_enter Tryz.func112, Tryz.ntmps112
  go_wp2_with fail
  refine (payloadParts_4 _ _).mono ?_
  rintro e w2 ⟨rfl, rfl⟩
  clear hoc
  go_wp2_with fail
  go_loopw [15] (fun i wr => ∃ k : Nat, k ≤ n ∧ i = .int .i64 k ∧ Lib.IsBuilder 121 5 w.heap.size w.heap.size (Lib.byteCells ((rs.take k).flatMap fun r => textL 4 ⟨r.all.toArray⟩)) wr ∧ Below w.heap.size w wr ∧ w.heap.size < wr.heap.size) (fun i _ => n - (intOf i).toNat)
  case atStart => exact ⟨0, Nat.zero_le _, rfl, Lib.fresh_isBuilder 121 5 w, (Below.refl _ _).alloc (Nat.le_refl _) _, by simp⟩
  case round =>
    obtain ⟨k, hk, rfl, hbld, hb, hsz⟩ := hrel
    by_cases hlt : k < n
    · obtain ⟨r, hx⟩ : ∃ r, rs[k]? = some r := ⟨_, List.getElem?_eq_getElem (by have := HN.out; omega)⟩
      obtain ⟨g, off, rfl, hgl, q0, q1⟩ := HRS.out k r hx
      have p0 := (hb.cell (p := ⟨g, _, none⟩) hgl).trans q0
      have p1 := (hb.cell (p := ⟨g, _, none⟩) hgl).trans q1
      have HT := Lib.hid (flat_succ (f := fun r : Rl => textL 4 ⟨r.all.toArray⟩) hx)
      have hT1 := flat_le (fun r : Rl => textL 4 ⟨r.all.toArray⟩) rs (k + 1)
      rw [HT.out, List.length_append] at hT1
      have hT2 : r.all.length ≤ (textL 4 ⟨r.all.toArray⟩).length := textL_len (num := 4) ⟨r.all.toArray⟩ (by decide)
      have HZ := Lib.hid (show r.all.length ≤ 140737488355328 by have := HS.out; omega)
      have HZ3 := Lib.hid (show (⟨r.all.toArray⟩ : ByteArray).size ≤ 140737488355328 from HZ.out)
      have HZ2 := Lib.hid (show ((rs.take k).flatMap fun r => textL 4 ⟨r.all.toArray⟩).length + (textL 4 ⟨r.all.toArray⟩).length ≤ 140737488355328 by have := HS.out; omega)
      skip
      have HZ4 := Lib.hid (show (Lib.byteCells ((rs.take k).flatMap fun r => textL 4 ⟨r.all.toArray⟩)).length + (⟨(textL 4 ⟨r.all.toArray⟩).toArray⟩ : ByteArray).size ≤ 140737488355328 by have := HZ2.out; rw [Lib.byteCells_length]; exact this)
      clear hT1 hT2 hx
      have HC := Lib.hid (LCtx.mk (sub := RuleParts) (E := wr.heap.size) (cs := #[.string r.pre, .string r.clu]) (T := 42)
        ((HG.out.below hb).alloc (.cells #[.string r.pre, .string r.clu] 42)) ((HR.out.below hb).below ((Below.refl _ _).alloc (Nat.le_refl _) _)) ((HBn.out.below hb).below ((Below.refl _ _).alloc (Nat.le_refl _) _)) ((HBp.out.below hb).below ((Below.refl _ _).alloc (Nat.le_refl _) _))
        (World.alloc_heap_new wr _) (isBuilder_below hbld ((Below.refl _ _).alloc (Nat.le_refl _) _)) (hb.alloc (by omega) _))
      have HBB := Lib.hid hb
      clear hb hbld
      have b0 : (0 : Int) ≤ (k : Int) := by omega
      have b1 : (k : Int) < (n : Int) := by omega
      go_wp2_with fail
      have HD := Lib.hid (LCtx.drew stays_Rule HC.out (by rw [World.size_alloc]; omega))
      clear q0 q1
      go_region_held3 (fun w' => w'.cell? ⟨bn, 0, none⟩ = some (.int .i64 4) ∧ w'.cell? ⟨bp, 0, none⟩ = some (.slice (some ⟨gp, 0, none⟩) 2 cap) ∧ w'.cell? ⟨wr.heap.size, 0, none⟩ = some (.string r.pre) ∧ w'.cell? ⟨wr.heap.size, 1, none⟩ = some (.string r.clu))
        (first | exact lctxS_Rule HC.out | exact lctxS_Rule HD.out | exact lctxS_Rule HC4.out | exact lctxS_Rule HC5.out | exact HC6.out | go_keep)
        (first
          | (go_at_call 113; (with_reducible refine (ruleAll_any r gp cap b _ HD.out.gv HD.out.parts HZ.out).mono ?_); rintro e w4 ⟨rfl, hb4⟩; have HC4 := Lib.hid (LCtx.next stays_Rule HD.out hb4 (by rw [World.size_drew, World.size_alloc]; omega)); have hs4 := hb4.size; simp only [World.size_alloc, World.size_drew] at hs4; clear hb4)
          | (go_at_call 107; (with_reducible refine (text_any 4 ⟨r.all.toArray⟩ b _ HC4.out.gv HZ3.out).mono ?_); rintro e w5 ⟨rfl, hb5⟩; have HC5 := Lib.hid (LCtx.next stays_Rule HC4.out hb5 (by omega)); have hs5 := hb5.size; clear hb5)
          | (go_at_call 59; (with_reducible refine (writeString_keeps w.heap.size w.heap.size _ ⟨(textL 4 ⟨r.all.toArray⟩).toArray⟩ _ HC5.out.bld HZ4.out (by omega)).mono ?_); rintro e w6 ⟨rfl, ⟨hbld6, hb6⟩, hk6⟩; have hs6 := hb6.size; have HL6 := Lib.hid hbld6; have HB6 := Lib.hid (HC5.out.low.trans hb6); have HC6 := Lib.hid (show w6.cell? ⟨bn, 0, none⟩ = some (.int .i64 4) ∧ w6.cell? ⟨bp, 0, none⟩ = some (.slice (some ⟨gp, 0, none⟩) 2 cap) ∧ w6.cell? ⟨wr.heap.size, 0, none⟩ = some (.string r.pre) ∧ w6.cell? ⟨wr.heap.size, 1, none⟩ = some (.string r.clu) from ⟨(hb6.cell (p := ⟨bn, 0, none⟩) HBn.out.1).trans HC5.out.bn.2, (hb6.cell (p := ⟨bp, 0, none⟩) HBp.out.1).trans HC5.out.bp.2, (Lib.cell_of_heap (hk6 wr.heap.size _ _ _ (by omega) (by decide) HC5.out.e) 0).trans rfl, (Lib.cell_of_heap (hk6 wr.heap.size _ _ _ (by omega) (by decide) HC5.out.e) 1).trans rfl⟩); clear hb6 hk6))
      go_wp2_with fail
      go_roundw
      case rel => exact ⟨k + 1, by omega, by go_num, Or.inr (by rw [HT.out, Lib.byteCells_append]; exact HL6.out), HB6.out, by omega⟩
      case measure => simp [intOf]; omega
    · obtain rfl : k = n := by omega
      have HBL := Lib.hid hbld
      have HB := Lib.hid hb
      have HT := Lib.hid (show rs.take k = rs from List.take_of_length_le (by have := HN.out; omega))
      clear hbld hb
      go_wp2_with fail
      refine (Tryz.Builder_String_any w.heap.size w.heap.size _ _ HBL.out (by omega)).mono ?_
      rintro e w3 ⟨rfl, hb3⟩
      go_wp2_with fail
      go_ret
      exact ⟨by rw [HT.out]; rfl, HB.out.trans hb3⟩

theorem lctxS_Addr {b : Addr} {bn bp gp n cap E B0 : Nat} {num : Int} {T : TypeId} {acc : List Value} {w0 w' : World} {v0 v1 v2 : Value} (h : LCtx AddrParts b bn bp gp n cap E B0 num #[v0, v1, v2] T acc w0 w') :
    w'.cell? ⟨bn, 0, none⟩ = some (.int .i64 num) ∧ w'.cell? ⟨bp, 0, none⟩ = some (.slice (some ⟨gp, 0, none⟩) n cap) ∧ w'.cell? ⟨E, 0, none⟩ = some v0 ∧ w'.cell? ⟨E, 1, none⟩ = some v1 ∧ w'.cell? ⟨E, 2, none⟩ = some v2 :=
  ⟨h.bn.2, h.bp.2, (Lib.cell_of_heap h.e 0).trans rfl, (Lib.cell_of_heap h.e 1).trans rfl, (Lib.cell_of_heap h.e 2).trans rfl⟩
set_option maxRecDepth 100000 in
set_option maxHeartbeats 2000000 in
theorem listAddr_put (w : World) (B bo bn bp gp cap c : Nat) (a : Option Addr) (rs : List Ad) (b : Addr) (hg : Gv b w) (ho : Box w bo (.func (.func 90) #[] #[])) (hn : Box w bn (.int .i64 7)) (hp : Box w bp (.slice (some ⟨gp, 0, none⟩) 3 cap)) (hr : AddrParts w gp)
    (hB : B < w.heap.size) (hf : w.cell? ⟨B, 6, none⟩ = some (.slice a rs.length c)) (hrs : AddrsAt w a rs) (hsz : (rs.flatMap fun r => textL 7 ⟨r.all.toArray⟩).length ≤ 140737488355328) (hlen : rs.length ≤ 140737488355328) (h64 : ∀ r ∈ rs, r.port < 2 ^ 64 ∧ r.wt < 2 ^ 64) :
    Calls Tryz.prog 119 #[.pointer (some ⟨B, 0, none⟩), .pointer (some ⟨bo, 0, none⟩), .pointer (some ⟨bn, 0, none⟩), .pointer (some ⟨bp, 0, none⟩)] w fun e w' => e = .returned (.string ⟨(rs.flatMap fun r => textL 7 ⟨r.all.toArray⟩).toArray⟩) ∧ Below w.heap.size w w' := by
  obtain ⟨n, hxn⟩ : ∃ n, rs.length = n := ⟨_, rfl⟩
  have HN := Lib.hid hxn
  rw [hxn] at hf hlen
  clear hxn
  have HS := Lib.hid hsz; clear hsz
  have HG := Lib.hid hg; clear hg
  have HR := Lib.hid hr; clear hr
  have HRS := Lib.hid hrs; clear hrs
  have HBn := Lib.hid hn; clear hn
  have HBp := Lib.hid hp; clear hp
  have HE := Lib.hid h64; clear h64
  obtain ⟨hol, hoc⟩ := ho
  go_enter Tryz.func119, Tryz.ntmps119
  go_wp2_with fail
  refine (payloadParts_7 _ _).mono ?_
  rintro e w2 ⟨rfl, rfl⟩
  clear hoc
  go_wp2_with fail
  go_loopw [15] (fun i wr => ∃ k : Nat, k ≤ n ∧ i = .int .i64 k ∧ Lib.IsBuilder 121 5 w.heap.size w.heap.size (Lib.byteCells ((rs.take k).flatMap fun r => textL 7 ⟨r.all.toArray⟩)) wr ∧ Below w.heap.size w wr ∧ w.heap.size < wr.heap.size) (fun i _ => n - (intOf i).toNat)
  case atStart => exact ⟨0, Nat.zero_le _, rfl, Lib.fresh_isBuilder 121 5 w, (Below.refl _ _).alloc (Nat.le_refl _) _, by simp⟩
  case round =>
    obtain ⟨k, hk, rfl, hbld, hb, hsz⟩ := hrel
    by_cases hlt : k < n
    · obtain ⟨r, hx⟩ : ∃ r, rs[k]? = some r := ⟨_, List.getElem?_eq_getElem (by have := HN.out; omega)⟩
      obtain ⟨g, off, rfl, hgl, q0, q1, q2⟩ := HRS.out k r hx
      have p0 := (hb.cell (p := ⟨g, _, none⟩) hgl).trans q0
      have p1 := (hb.cell (p := ⟨g, _, none⟩) hgl).trans q1
      have p2 := (hb.cell (p := ⟨g, _, none⟩) hgl).trans q2
      have HT := Lib.hid (flat_succ (f := fun r : Ad => textL 7 ⟨r.all.toArray⟩) hx)
      have hT1 := flat_le (fun r : Ad => textL 7 ⟨r.all.toArray⟩) rs (k + 1)
      rw [HT.out, List.length_append] at hT1
      have hT2 : r.all.length ≤ (textL 7 ⟨r.all.toArray⟩).length := textL_len (num := 7) ⟨r.all.toArray⟩ (by decide)
      have HZ := Lib.hid (show r.all.length ≤ 140737488355328 by have := HS.out; omega)
      have HZ3 := Lib.hid (show (⟨r.all.toArray⟩ : ByteArray).size ≤ 140737488355328 from HZ.out)
      have HZ2 := Lib.hid (show ((rs.take k).flatMap fun r => textL 7 ⟨r.all.toArray⟩).length + (textL 7 ⟨r.all.toArray⟩).length ≤ 140737488355328 by have := HS.out; omega)
      have HE1 := Lib.hid (HE.out r (List.mem_of_getElem? hx))
      have HZ4 := Lib.hid (show (Lib.byteCells ((rs.take k).flatMap fun r => textL 7 ⟨r.all.toArray⟩)).length + (⟨(textL 7 ⟨r.all.toArray⟩).toArray⟩ : ByteArray).size ≤ 140737488355328 by have := HZ2.out; rw [Lib.byteCells_length]; exact this)
      clear hT1 hT2 hx
      have HC := Lib.hid (LCtx.mk (sub := AddrParts) (E := wr.heap.size) (cs := #[.string r.host, .int .u64 (r.port : Int), .int .u64 (r.wt : Int)]) (T := 44)
        ((HG.out.below hb).alloc (.cells #[.string r.host, .int .u64 (r.port : Int), .int .u64 (r.wt : Int)] 44)) ((HR.out.below hb).below ((Below.refl _ _).alloc (Nat.le_refl _) _)) ((HBn.out.below hb).below ((Below.refl _ _).alloc (Nat.le_refl _) _)) ((HBp.out.below hb).below ((Below.refl _ _).alloc (Nat.le_refl _) _))
        (World.alloc_heap_new wr _) (isBuilder_below hbld ((Below.refl _ _).alloc (Nat.le_refl _) _)) (hb.alloc (by omega) _))
      have HBB := Lib.hid hb
      clear hb hbld
      have b0 : (0 : Int) ≤ (k : Int) := by omega
      have b1 : (k : Int) < (n : Int) := by omega
      go_wp2_with fail
      have HD := Lib.hid (LCtx.drew stays_Addr HC.out (by rw [World.size_alloc]; omega))
      clear q0 q1 q2
      go_region_held3 (fun w' => w'.cell? ⟨bn, 0, none⟩ = some (.int .i64 7) ∧ w'.cell? ⟨bp, 0, none⟩ = some (.slice (some ⟨gp, 0, none⟩) 3 cap) ∧ w'.cell? ⟨wr.heap.size, 0, none⟩ = some (.string r.host) ∧ w'.cell? ⟨wr.heap.size, 1, none⟩ = some (.int .u64 (r.port : Int)) ∧ w'.cell? ⟨wr.heap.size, 2, none⟩ = some (.int .u64 (r.wt : Int)))
        (first | exact lctxS_Addr HC.out | exact lctxS_Addr HD.out | exact lctxS_Addr HC4.out | exact lctxS_Addr HC5.out | exact HC6.out | go_keep)
        (first
          | (go_at_call 120; (with_reducible refine (addrAll_any r gp cap b _ HD.out.gv HD.out.parts HZ.out HE1.out.1 HE1.out.2).mono ?_); rintro e w4 ⟨rfl, hb4⟩; have HC4 := Lib.hid (LCtx.next stays_Addr HD.out hb4 (by rw [World.size_drew, World.size_alloc]; omega)); have hs4 := hb4.size; simp only [World.size_alloc, World.size_drew] at hs4; clear hb4)
          | (go_at_call 107; (with_reducible refine (text_any 7 ⟨r.all.toArray⟩ b _ HC4.out.gv HZ3.out).mono ?_); rintro e w5 ⟨rfl, hb5⟩; have HC5 := Lib.hid (LCtx.next stays_Addr HC4.out hb5 (by omega)); have hs5 := hb5.size; clear hb5)
          | (go_at_call 59; (with_reducible refine (writeString_keeps w.heap.size w.heap.size _ ⟨(textL 7 ⟨r.all.toArray⟩).toArray⟩ _ HC5.out.bld HZ4.out (by omega)).mono ?_); rintro e w6 ⟨rfl, ⟨hbld6, hb6⟩, hk6⟩; have hs6 := hb6.size; have HL6 := Lib.hid hbld6; have HB6 := Lib.hid (HC5.out.low.trans hb6); have HC6 := Lib.hid (show w6.cell? ⟨bn, 0, none⟩ = some (.int .i64 7) ∧ w6.cell? ⟨bp, 0, none⟩ = some (.slice (some ⟨gp, 0, none⟩) 3 cap) ∧ w6.cell? ⟨wr.heap.size, 0, none⟩ = some (.string r.host) ∧ w6.cell? ⟨wr.heap.size, 1, none⟩ = some (.int .u64 (r.port : Int)) ∧ w6.cell? ⟨wr.heap.size, 2, none⟩ = some (.int .u64 (r.wt : Int)) from ⟨(hb6.cell (p := ⟨bn, 0, none⟩) HBn.out.1).trans HC5.out.bn.2, (hb6.cell (p := ⟨bp, 0, none⟩) HBp.out.1).trans HC5.out.bp.2, (Lib.cell_of_heap (hk6 wr.heap.size _ _ _ (by omega) (by decide) HC5.out.e) 0).trans rfl, (Lib.cell_of_heap (hk6 wr.heap.size _ _ _ (by omega) (by decide) HC5.out.e) 1).trans rfl, (Lib.cell_of_heap (hk6 wr.heap.size _ _ _ (by omega) (by decide) HC5.out.e) 2).trans rfl⟩); clear hb6 hk6))
      go_wp2_with fail
      go_roundw
      case rel => exact ⟨k + 1, by omega, by go_num, Or.inr (by rw [HT.out, Lib.byteCells_append]; exact HL6.out), HB6.out, by omega⟩
      case measure => simp [intOf]; omega
    · obtain rfl : k = n := by omega
      have HBL := Lib.hid hbld
      have HB := Lib.hid hb
      have HT := Lib.hid (show rs.take k = rs from List.take_of_length_le (by have := HN.out; omega))
      clear hbld hb
      go_wp2_with fail
      refine (Tryz.Builder_String_any w.heap.size w.heap.size _ _ HBL.out (by omega)).mono ?_
      rintro e w3 ⟨rfl, hb3⟩
      go_wp2_with fail
      go_ret
      exact ⟨by rw [HT.out]; rfl, HB.out.trans hb3⟩

/-! ### A payload as it stands in memory -/
structure VPay (w : World) (B : Nat) (p : Pl) : Prop where
  lt : B < w.heap.size
  c0 : w.cell? ⟨B, 0, none⟩ = some (.string p.name)
  c1 : w.cell? ⟨B, 1, none⟩ = some (.int .u64 (p.port : Int))
  c2 : w.cell? ⟨B, 2, none⟩ = some (.string p.route)
  c3 : ∃ a c, w.cell? ⟨B, 3, none⟩ = some (.slice a p.rules.length c) ∧ RulesAt w a p.rules
  c4 : w.cell? ⟨B, 4, none⟩ = some (.int .u64 (p.policy : Int))
  c5 : w.cell? ⟨B, 5, none⟩ = some (.string p.secret)
  c6 : ∃ a c, w.cell? ⟨B, 6, none⟩ = some (.slice a p.addrs.length c) ∧ AddrsAt w a p.addrs
  c7 : w.cell? ⟨B, 7, none⟩ = some (.string p.key)
/-- The sizes that a payload may have. -/
structure PlOk (p : Pl) : Prop where
  n1 : p.port < 2 ^ 64
  n4 : p.policy < 2 ^ 64
  rs : p.rules.length ≤ 140737488355328
  as_ : p.addrs.length ≤ 140737488355328
  a64 : ∀ r ∈ p.addrs, r.port < 2 ^ 64 ∧ r.wt < 2 ^ 64
theorem payPart_puts {i : Nat} {x : PartV} {w : World} {B : Nat} {b : Addr} {p : Pl} (hg : Gv b w) (hx : PayPart w i x) (hv : VPay w B p) (ho : PlOk p) (hs : (p.put i).length ≤ 140737488355328) : PutsAs w.heap.size B w x (p.put i) := by
  match i, hx with
  | 0, hx => exact putsPayload_0 hg hx hv.lt hv.c0 (by have := txtL_len (num := 1) p.name (by decide); simp only [Pl.put] at hs; omega)
  | 1, hx => exact putsPayload_1 hg hx hv.lt hv.c1 ho.n1
  | 2, hx => exact putsPayload_2 hg hx hv.lt hv.c2 (by have := txtL_len (num := 3) p.route (by decide); simp only [Pl.put] at hs; omega)
  | 3, hx =>
    obtain ⟨bo, bn, bp, gp, cap, rfl, a1, a2, a3, a4⟩ := hx
    obtain ⟨a, c, hc, hr⟩ := hv.c3
    exact ⟨enters_of Tryz.func112 (by kernel_rfl) rfl, fun W hb => listRule_put W B bo bn bp gp cap c a _ b (hg.below hb) (a1.below hb) (a2.below hb) (a3.below hb) (a4.below hb) (Nat.lt_of_lt_of_le hv.lt hb.size) ((hb.cell (p := ⟨B, 3, none⟩) hv.lt).trans hc) (hr.below hb) hs ho.rs⟩
  | 4, hx => exact putsPayload_4 hg hx hv.lt hv.c4 ho.n4
  | 5, hx => exact putsPayload_5 hg hx hv.lt hv.c5 (by have := txtL_len (num := 6) p.secret (by decide); simp only [Pl.put] at hs; omega)
  | 6, hx =>
    obtain ⟨bo, bn, bp, gp, cap, rfl, a1, a2, a3, a4⟩ := hx
    obtain ⟨a, c, hc, hr⟩ := hv.c6
    exact ⟨enters_of Tryz.func119 (by kernel_rfl) rfl, fun W hb => listAddr_put W B bo bn bp gp cap c a _ b (hg.below hb) (a1.below hb) (a2.below hb) (a3.below hb) (a4.below hb) (Nat.lt_of_lt_of_le hv.lt hb.size) ((hb.cell (p := ⟨B, 6, none⟩) hv.lt).trans hc) (hr.below hb) hs ho.as_ ho.a64⟩
  | 7, hx => exact putsPayload_7 hg hx hv.lt hv.c7 (by have := txtL_len (num := 8) p.key (by decide); simp only [Pl.put] at hs; omega)
  | _ + 8, hx => exact hx.elim
end Go.Proofs.YtngceccpebdgmaaGreatDoor
