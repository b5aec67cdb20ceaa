/- merge: turn: what lies where, region by region. -/
import Derived.Test.YtkjfafnnnkjoeaaGreatDoorMgNo
namespace Go.Proofs.YtkjfafnnnkjoeaaGreatDoor
open Go.RowKit Go.Lib

abbrev zSet : Array Value := #[.bool false, .slice none 0 0]
/-- turn under way: the Merge, the boxes. -/
structure TnX (base m mw mc : Nat) (C : Tk → Option Value) (D : Int → Option Value) (W : Wants) (b1 b2 b3 b4 : Nat) (i k : Int) (sa : Bool) (u : Value) (a f n : Addr) (w0 w : World) : Prop where
  mg : MgIn base m mw mc C D W w
  q1 : Blk w b1 #[.int .i64 i, .int .i64 k] 74
  q2 : Blk w b2 #[.bool sa, u] 41
  q3 : Blk w b3 zSet 41
  q4 : Blk w b4 zSet 41
  gm : Gm a f n w
  be : Below w0.heap.size w0 w
  ik : i64B i ∧ i64B k
section
variable {base m mw mc : Nat} {C : Tk → Option Value} {D : Int → Option Value} {W : Wants} {b1 b2 b3 b4 : Nat} {i k : Int} {sa : Bool} {u : Value} {a f n : Addr} {w0 w : World}
theorem TnX.later {w' : World} (h : TnX base m mw mc C D W b1 b2 b3 b4 i k sa u a f n w0 w) (hb : Below w.heap.size w w') : TnX base m mw mc C D W b1 b2 b3 b4 i k sa u a f n w0 w' :=
  ⟨h.mg.later hb, h.q1.later hb, h.q2.later hb, h.q3.later hb, h.q4.later hb, h.gm.later hb, h.be.trans (hb.mono h.be.size), h.ik⟩
theorem mg_zeroT (w : World) : (zeroValue 81).run Tryz.prog w = .ok (.map none) w := by kernel_rfl
theorem mg_zeroS (w : World) : (zeroValue 41).run Tryz.prog w = .ok (.agg #[.bool false, .slice none 0 0]) w := by kernel_rfl
theorem MgIn.lookC (h : MgIn base m mw mc C D W w) {k : Int} (hk : i64B k) : (Instr.lookup 63 (.map (some mc)) (.int .i64 k) false).run Tryz.prog w = .ok ((D k).getD (.map none)) w := by
  have := h.cm.lookup (k := 3) (e := 81) (lit := fun z => .int .i64 z) (t := 63) (P := Tryz.prog) Tryz.ikLaw ikKey ikV_inj Tryz.underlying63 (mg_zeroT w) hk false
  simpa using this
/-- What a set in the map reads as. -/
def wsV (o : Option Value) : Value := o.getD (.agg #[.bool false, .slice none 0 0])
theorem MgIn.lookW (h : MgIn base m mw mc C D W w) {i k : Int} (hi : i64B i) (hk : i64B k) : (Instr.lookup 62 (.map (some mw)) (.agg #[.int .i64 i, .int .i64 k]) false).run Tryz.prog w = .ok (wsV (C (i, k))) w := by
  have := h.wm.lookup (k := 74) (e := 41) (lit := tkLit) (t := 62) (P := Tryz.prog) Tryz.tkLaw tkKey tkV_inj Tryz.underlying62 (mg_zeroS w) (s := (i, k)) ⟨hi, hk⟩ false
  simp only [Bool.false_eq_true, if_false] at this
  exact this
theorem WSet.val {w : World} {o : Option Value} {s : Ns} (h : WSet w o s) : ∃ a c, wsV o = .agg #[.bool s.all, .slice a s.ns.length c] ∧ TsAt w (.slice a s.ns.length c) s.ns := by
  cases o with
  | none => obtain rfl : s = Ns.zero := h; exact ⟨none, 0, rfl, RowV.nil _ _ _ (Nat.zero_le _)⟩
  | some v => exact h
abbrev S1 (base m mw mc : Nat) (C : Tk → Option Value) (D : Int → Option Value) (W : Wants) (b1 b2 b3 b4 : Nat) (i k : Int) (sa : Bool) (u : Value) (a f n : Addr) (w0 w : World) : Prop :=
  w.cell? ⟨m, 0, none⟩ = some (.map (some mw)) ∧ w.cell? ⟨m, 1, none⟩ = some (.map (some mc)) ∧ w.cell? ⟨b1, 0, none⟩ = some (.int .i64 i) ∧ w.cell? ⟨b1, 1, none⟩ = some (.int .i64 k) ∧ w.cell? ⟨b2, 0, none⟩ = some (.bool sa) ∧ w.cell? ⟨b2, 1, none⟩ = some u ∧
  (Instr.lookup 63 (.map (some mc)) (.int .i64 k) false).run Tryz.prog w = .ok ((D k).getD (.map none)) w ∧
  (Instr.lookup 62 (.map (some mw)) (.agg #[.int .i64 i, .int .i64 k]) false).run Tryz.prog w = .ok (wsV (C (i, k))) w ∧
  TnX base m mw mc C D W b1 b2 b3 b4 i k sa u a f n w0 w
theorem TnX.s1 (h : TnX base m mw mc C D W b1 b2 b3 b4 i k sa u a f n w0 w) : S1 base m mw mc C D W b1 b2 b3 b4 i k sa u a f n w0 w :=
  ⟨h.mg.blk.cell 0, h.mg.blk.cell 1, h.q1.cell 0, h.q1.cell 1, h.q2.cell 0, h.q2.cell 1, h.mg.lookC h.ik.2, h.mg.lookW h.ik.1 h.ik.2, h⟩
theorem S1.next {w' : World} (h : S1 base m mw mc C D W b1 b2 b3 b4 i k sa u a f n w0 w) (hb : Below w.heap.size w w') : S1 base m mw mc C D W b1 b2 b3 b4 i k sa u a f n w0 w' := (h.2.2.2.2.2.2.2.2.later hb).s1
end
/-- What a region that lays two empty sets holds. -/
structure F4 (b1 b3 b4 : Nat) (i k : Int) (f : Addr) (w0 w : World) : Prop where
  q1 : Blk w b1 #[.int .i64 i, .int .i64 k] 74
  q3 : Blk w b3 zSet 41
  q4 : Blk w b4 zSet 41
  cf : w.cell? ⟨2, 0, none⟩ = some (.iface 157 (.pointer (some f)))
  be : Below w0.heap.size w0 w
  l : w0.heap.size ≤ b1 ∧ b1 < b3 ∧ b3 < b4 ∧ 2 < w0.heap.size
abbrev S4 (b1 b3 b4 : Nat) (i k : Int) (f : Addr) (w0 w : World) : Prop :=
  w.cell? ⟨b1, 0, none⟩ = some (.int .i64 i) ∧ w.cell? ⟨2, 0, none⟩ = some (.iface 157 (.pointer (some f))) ∧ w.cell? ⟨b3, 0, none⟩ = some (.bool false) ∧ w.cell? ⟨b3, 1, none⟩ = some (.slice none 0 0) ∧ w.cell? ⟨b4, 0, none⟩ = some (.bool false) ∧ w.cell? ⟨b4, 1, none⟩ = some (.slice none 0 0) ∧
  w.frozen? ⟨b3, 0, none⟩ = false ∧ w.frozen? ⟨b3, 1, none⟩ = false ∧ w.frozen? ⟨b4, 0, none⟩ = false ∧ w.frozen? ⟨b4, 1, none⟩ = false ∧ F4 b1 b3 b4 i k f w0 w
theorem F4.s4 {b1 b3 b4 : Nat} {i k : Int} {f : Addr} {w0 w : World} (h : F4 b1 b3 b4 i k f w0 w) : S4 b1 b3 b4 i k f w0 w :=
  ⟨h.q1.cell 0, h.cf, h.q3.cell 0, h.q3.cell 1, h.q4.cell 0, h.q4.cell 1, h.q3.frozen 0, h.q3.frozen 1, h.q4.frozen 0, h.q4.frozen 1, h⟩
theorem F4.set3 {b1 b3 b4 : Nat} {i k : Int} {f : Addr} {w0 w : World} (h : F4 b1 b3 b4 i k f w0 w) : F4 b1 b3 b4 i k f w0 ((w.setCell ⟨b3, 0, none⟩ (.bool false)).setCell ⟨b3, 1, none⟩ (.slice none 0 0)) := by
  obtain ⟨l1, l2, l3, l4⟩ := h.l
  have g1 := grown_set w b3 0 (.bool false)
  have g2 := grown_set (w.setCell ⟨b3, 0, none⟩ (.bool false)) b3 1 (.slice none 0 0)
  have hc : ∀ (w : World) j u, (w.setCell ⟨b3, j, none⟩ u).cell? ⟨2, 0, none⟩ = w.cell? ⟨2, 0, none⟩ := fun w j u => World.cell?_setCell_other _ _ _ _ (by intro e; injection e with e _ _; omega)
  exact ⟨(h.q1.kept g1 (fun e => by have := Option.some.inj e; omega)).kept g2 (fun e => by have := Option.some.inj e; omega), (h.q3.set 0 (.bool false)).set 1 (.slice none 0 0), (h.q4.kept g1 (fun e => by have := Option.some.inj e; omega)).kept g2 (fun e => by have := Option.some.inj e; omega), (hc _ _ _).trans ((hc _ _ _).trans h.cf), (h.be.setCell (p := ⟨b3, 0, none⟩) (by show w0.heap.size ≤ b3; omega) _).setCell (p := ⟨b3, 1, none⟩) (by show w0.heap.size ≤ b3; omega) _, h.l⟩
theorem F4.set4 {b1 b3 b4 : Nat} {i k : Int} {f : Addr} {w0 w : World} (h : F4 b1 b3 b4 i k f w0 w) : F4 b1 b3 b4 i k f w0 ((w.setCell ⟨b4, 0, none⟩ (.bool false)).setCell ⟨b4, 1, none⟩ (.slice none 0 0)) := by
  obtain ⟨l1, l2, l3, l4⟩ := h.l
  have g1 := grown_set w b4 0 (.bool false)
  have g2 := grown_set (w.setCell ⟨b4, 0, none⟩ (.bool false)) b4 1 (.slice none 0 0)
  have hc : ∀ (w : World) j u, (w.setCell ⟨b4, j, none⟩ u).cell? ⟨2, 0, none⟩ = w.cell? ⟨2, 0, none⟩ := fun w j u => World.cell?_setCell_other _ _ _ _ (by intro e; injection e with e _ _; omega)
  exact ⟨(h.q1.kept g1 (fun e => by have := Option.some.inj e; omega)).kept g2 (fun e => by have := Option.some.inj e; omega), (h.q3.kept g1 (fun e => by have := Option.some.inj e; omega)).kept g2 (fun e => by have := Option.some.inj e; omega), (h.q4.set 0 (.bool false)).set 1 (.slice none 0 0), (hc _ _ _).trans ((hc _ _ _).trans h.cf), (h.be.setCell (p := ⟨b4, 0, none⟩) (by show w0.heap.size ≤ b4; omega) _).setCell (p := ⟨b4, 1, none⟩) (by show w0.heap.size ≤ b4; omega) _, h.l⟩
/-- Both entries are laid. -/
theorem MgIn.put {base m mw mc : Nat} {C : Tk → Option Value} {D : Int → Option Value} {W : Wants} {i k : Int} {w : World} (h : MgIn base m mw mc C D W w) (hi : i64B i) (hk : i64B k) (vs vt : Value) :
    ∃ (st1 st2 : Nat) (x1 x2 : Value) (w1 w2 w3 w4 : World),
      (Instr.mapEntry 62 (.map (some mw)) (.agg #[.int .i64 i, .int .i64 k])).run Tryz.prog w = .ok (.tuple #[x1, .int .i64 (st1 : Int)]) w1 ∧
      (Instr.entryStore 62 (.map (some mw)) (.int .i64 (st1 : Int)) vs).run Tryz.prog w1 = .ok () w2 ∧
      (Instr.mapEntry 63 (.map (some mc)) (.int .i64 k)).run Tryz.prog w2 = .ok (.tuple #[x2, .int .i64 (st2 : Int)]) w3 ∧
      (Instr.entryStore 63 (.map (some mc)) (.int .i64 (st2 : Int)) vt).run Tryz.prog w3 = .ok () w4 ∧
      KeptM base w w1 ∧ KeptM base w1 w2 ∧ KeptM base w2 w3 ∧ KeptM base w3 w4 ∧ TMap w4 mw (kset C (i, k) vs) ∧ IMap w4 mc (kset D k vt) ∧
      (∀ b, b < w.heap.size → b ≠ mw → b ≠ mc → w4.heap[b]? = w.heap[b]?) := by
  have hne : some mc ≠ some mw := fun e => h.ne (Option.some.inj e).symm
  have hne' : some mw ≠ some mc := fun e => h.ne (Option.some.inj e)
  have kk : ∀ {w : World} {κ : Type} {enc : κ → Value} {ok : κ → Prop} {m : Nat} {C : κ → Option Value}, KMap enc ok w m C → ∃ es clock, w.heap[m]? = some (.map es clock) := fun ⟨es, clock, hb, _⟩ => ⟨es, clock, hb⟩
  obtain ⟨st1, w1, r1, m1, g1, e1⟩ := h.wm.entry (k := 74) (e := 41) (lit := tkLit) (t := 62) (P := Tryz.prog) Tryz.tkLaw tkKey tkV_inj Tryz.underlying62 (mg_zeroS w) (s := (i, k)) ⟨hi, hk⟩
  obtain ⟨w2, r2, m2, g2⟩ := m1.store (t := 62) (P := Tryz.prog) tkV_inj e1 vs
  have c2 := (h.cm.kept g1 hne).kept g2 hne
  obtain ⟨st2, w3, r3, m3, g3, e3⟩ := c2.entry (k := 3) (e := 81) (lit := fun z => .int .i64 z) (t := 63) (P := Tryz.prog) Tryz.ikLaw ikKey ikV_inj Tryz.underlying63 (mg_zeroT w2) hk
  obtain ⟨w4, r4, m4, g4⟩ := m3.store (t := 63) (P := Tryz.prog) ikV_inj e3 vt
  refine ⟨st1, st2, _, _, w1, w2, w3, w4, r1, r2, r3, r4, KeptM.grown g1 h.bw (kk h.wm), KeptM.grown g2 h.bw (kk m1), KeptM.grown g3 h.bc (kk c2), KeptM.grown g4 h.bc (kk m3), ((m2.kept g3 hne').kept g4 hne').ext fun s => ?_, m4.ext fun s => ?_, fun b hb n1 n2 => ?_⟩
  · by_cases e : s = (i, k)
    · subst e; rw [kset_same, kset_same]
    · rw [kset_other e, kset_other e, kset_other e]
  · by_cases e : s = k
    · subst e; rw [kset_same, kset_same]
    · rw [kset_other e, kset_other e, kset_other e]
  · have z1 := g1.size
    have z2 := g2.size
    have z3 := g3.size
    rw [g4.block b (by omega) (fun e => n2 (Option.some.inj e)), g3.block b (by omega) (fun e => n2 (Option.some.inj e)), g2.block b (by omega) (fun e => n1 (Option.some.inj e)), g1.block b hb (fun e => n1 (Option.some.inj e))]
/-- What a region that lays both entries holds. -/
structure T5 (m mw mc b1 b2 : Nat) (i k : Int) (sa : Bool) (u : Value) (w : World) : Prop where
  bm : Blk w m #[.map (some mw), .map (some mc)] 65
  q1 : Blk w b1 #[.int .i64 i, .int .i64 k] 74
  q2 : Blk w b2 #[.bool sa, u] 41
abbrev S5 (m mw mc b1 b2 : Nat) (i k : Int) (sa : Bool) (u : Value) (w : World) : Prop :=
  w.cell? ⟨m, 0, none⟩ = some (.map (some mw)) ∧ w.cell? ⟨m, 1, none⟩ = some (.map (some mc)) ∧ w.cell? ⟨b1, 0, none⟩ = some (.int .i64 i) ∧ w.cell? ⟨b1, 1, none⟩ = some (.int .i64 k) ∧ w.cell? ⟨b2, 0, none⟩ = some (.bool sa) ∧ w.cell? ⟨b2, 1, none⟩ = some u ∧ T5 m mw mc b1 b2 i k sa u w
theorem T5.s5 {m mw mc b1 b2 : Nat} {i k : Int} {sa : Bool} {u : Value} {w : World} (h : T5 m mw mc b1 b2 i k sa u w) : S5 m mw mc b1 b2 i k sa u w := ⟨h.bm.cell 0, h.bm.cell 1, h.q1.cell 0, h.q1.cell 1, h.q2.cell 0, h.q2.cell 1, h⟩
theorem S5.next {m mw mc b1 b2 B : Nat} {i k : Int} {sa : Bool} {u : Value} {w w' : World} (h : S5 m mw mc b1 b2 i k sa u w) (hk : KeptM B w w') : S5 m mw mc b1 b2 i k sa u w' :=
  T5.s5 ⟨hk.blk h.2.2.2.2.2.2.bm, hk.blk h.2.2.2.2.2.2.q1, hk.blk h.2.2.2.2.2.2.q2⟩
/-- The Merge behind it. -/
theorem MgIn.put_is {base m mw mc tb : Nat} {C : Tk → Option Value} {D : Int → Option Value} {W : Wants} {i k : Int} {sa : Bool} {sl : List (List UInt8)} {a1 : Option Addr} {c1 : Nat} {w w4 : World} (h : MgIn base m mw mc C D W w) (hk : KeptM base w w4) (h1 : TMap w4 mw (kset C (i, k) (.agg #[.bool sa, .slice a1 sl.length c1]))) (h2 : IMap w4 mc (kset D k (.map (some tb))))
    (hs : TsAt w (.slice a1 sl.length c1) sl) (ht : SMap w tb (tlV (cnt (wset W i k ⟨sa, sl⟩) k))) (hn : tb ≠ mw ∧ tb ≠ mc) (hbl : ∀ b, b < w.heap.size → b ≠ mw → b ≠ mc → w4.heap[b]? = w.heap[b]?) :
    MgIn base m mw mc (kset C (i, k) (.agg #[.bool sa, .slice a1 sl.length c1])) (kset D k (.map (some tb))) (wset W i k ⟨sa, sl⟩) w4 := by
  have sk : ∀ {m : Nat} {C : List UInt8 → Option Value}, SMap w m C → m ≠ mw → m ≠ mc → SMap w4 m C := fun {m' C'} hm n1 n2 => by
    have hlt := hm.lt
    obtain ⟨es, clock, hb, rest⟩ := hm
    exact ⟨es, clock, (hbl m' hlt n1 n2).trans hb, rest⟩
  refine ⟨hk.blk h.blk, h.bm, h.bw, h.bc, h.ne, h1, fun i' k' => ?_, h2, fun k' => ?_, fun k' tb' e => ?_⟩
  · by_cases e : (i', k') = (i, k)
    · injection e with e1 e2
      subst e1; subst e2
      rw [kset_same, wset_same]
      exact ⟨a1, c1, rfl, hk.ts hs⟩
    · rw [kset_other e]
      have : wset W i k ⟨sa, sl⟩ i' k' = W i' k' := by
        unfold wset
        rw [if_neg fun e' => e (by rw [e'.1, e'.2])]
      rw [this]
      exact (h.wv i' k').kept hk
  · by_cases e : k' = k
    · subst e
      rw [kset_same]
      exact .inr ⟨tb, _, rfl, sk ht hn.1 hn.2, fun x => rfl⟩
    · rw [kset_other e]
      have hc : cnt (wset W i k ⟨sa, sl⟩) k' = cnt W k' := funext fun x => cnt_kind e x
      rw [hc]
      rcases h.cv k' with ⟨e1, e2⟩ | ⟨tb', C', e1, e2, e3⟩
      · exact .inl ⟨e1, e2⟩
      · refine .inr ⟨tb', C', e1, ?_, e3⟩
        have hd : D k' = some (.map (some tb')) := by
          cases hD : D k' with
          | none => rw [hD] at e1; cases e1
          | some v => rw [hD] at e1; rw [← e1]; rfl
        exact sk e2 (h.cn k' tb' hd).1 (h.cn k' tb' hd).2
  · by_cases e' : k' = k
    · subst e'
      rw [kset_same] at e
      cases e
      exact hn
    · rw [kset_other e'] at e
      exact h.cn k' tb' e
theorem MgIn.old {base m mw mc : Nat} {C : Tk → Option Value} {D : Int → Option Value} {W : Wants} {k : Int} {w w4 : World} (h : MgIn base m mw mc C D W w) (hbl : ∀ b, b < w.heap.size → b ≠ mw → b ≠ mc → w4.heap[b]? = w.heap[b]?) : Tally w4 ((D k).getD (.map none)) (cnt W k) := by
  rcases h.cv k with ⟨e1, e2⟩ | ⟨tb', C', e1, e2, e3⟩
  · exact .inl ⟨e1, e2⟩
  · have hd : D k = some (.map (some tb')) := by
      cases hD : D k with
      | none => rw [hD] at e1; cases e1
      | some v => rw [hD] at e1; rw [← e1]; rfl
    have hlt := e2.lt
    refine .inr ⟨tb', C', e1, ?_, e3⟩
    obtain ⟨es, clock, hb, rest⟩ := e2
    exact ⟨es, clock, (hbl tb' hlt (h.cn k tb' hd).1 (h.cn k tb' hd).2).trans hb, rest⟩
/-- Behind the entries. -/
structure R6 (base m mw mc : Nat) (C : Tk → Option Value) (D : Int → Option Value) (W' : Wants) (b3 b4 : Nat) (vt vo : Value) (T' T : List UInt8 → Nat) (w0 w : World) : Prop where
  mg : MgIn base m mw mc C D W' w
  ta : Tally w vt T'
  tb : Tally w vo T
  q3 : Blk w b3 zSet 41
  q4 : Blk w b4 zSet 41
  kp : KeptM base w0 w
theorem R6.later {base m mw mc : Nat} {C : Tk → Option Value} {D : Int → Option Value} {W' : Wants} {b3 b4 : Nat} {vt vo : Value} {T' T : List UInt8 → Nat} {w0 w w' : World} (h : R6 base m mw mc C D W' b3 b4 vt vo T' T w0 w) (hb : Below w.heap.size w w') : R6 base m mw mc C D W' b3 b4 vt vo T' T w0 w' :=
  ⟨h.mg.later hb, h.ta.later hb, h.tb.later hb, h.q3.later hb, h.q4.later hb, h.kp.trans (.of hb)⟩
theorem uni_names {W : Wants} {k : Int} (hl : ∀ i, ∀ x ∈ (W i k).ns, x.length ≤ 64) : ∀ x ∈ nList (uni W k), x.length ≤ 1000 := fun x hx => by
  rcases (mem_list _ x).1 hx with ⟨_, e⟩ | h
  · rw [e]; decide
  · obtain ⟨i, _, hi⟩ := (mem_uni W k x).1 h
    have := hl i x hi
    omega
theorem wfit_set {W : Wants} (h : WFit W) {i k : Int} {s : Ns} (hn : (nList (uni (wset W i k s) k)).length ≤ 64) (hx : ∀ x ∈ s.ns, x.length ≤ 64) : WFit (wset W i k s) := by
  refine ⟨fun k' => ?_, fun i' k' x hx' => ?_⟩
  · by_cases e : k' = k
    · subst e; exact hn
    · have : uni (wset W i k s) k' = uni W k' := by unfold uni; simp only [wset_kind e]
      rw [this]; exact h.n k'
  · by_cases e : i' = i ∧ k' = k
    · obtain ⟨rfl, rfl⟩ := e
      rw [wset_same] at hx'; exact hx x hx'
    · unfold wset at hx'
      rw [if_neg e] at hx'
      exact h.l i' k' x hx'
theorem grown_set2 (w : World) (R : Nat) (u0 u1 : Value) : w.grownBy ((w.setCell ⟨R, 0, none⟩ u0).setCell ⟨R, 1, none⟩ u1) (some R) :=
  (grown_set w R 0 u0).andThen (grown_set _ R 1 u1) (fun j hj => .inr hj)
theorem blk_map {κ : Type} {enc : κ → Value} {ok : κ → Prop} {w : World} {B m : Nat} {c : Array Value} {t : TypeId} {C : κ → Option Value} (h : Blk w B c t) (hm : KMap enc ok w m C) : some m ≠ some B := by
  intro e
  obtain rfl := Option.some.inj e
  obtain ⟨es, clock, hb, _⟩ := hm
  rw [show w.heap[m]? = _ from h] at hb
  cases hb
theorem Tally.blk {w w' : World} {v : Value} {T : List UInt8 → Nat} {R : Nat} {c : Array Value} {t : TypeId} (h : Tally w v T) (hR : Blk w R c t) (hg : w.grownBy w' (some R)) : Tally w' v T := by
  rcases h with h | ⟨tb, C, e, h1, h2⟩
  · exact .inl h
  · exact .inr ⟨tb, C, e, h1.kept hg (blk_map hR h1), h2⟩
/-- A box of a set is stored into. -/
theorem MgIn.set2 {base m mw mc R : Nat} {C : Tk → Option Value} {D : Int → Option Value} {W : Wants} {w : World} {b0 : Bool} {a0 : Option Addr} {n0 c0 : Nat} (h : MgIn base m mw mc C D W w) (hR : Blk w R #[.bool b0, .slice a0 n0 c0] 41) (u0 u1 : Value) : MgIn base m mw mc C D W ((w.setCell ⟨R, 0, none⟩ u0).setCell ⟨R, 1, none⟩ u1) := by
  have hg := grown_set2 w R u0 u1
  have r0 : w.cell? ⟨R, 0, none⟩ = some (.bool b0) := hR.cell 0
  have r1 : w.cell? ⟨R, 1, none⟩ = some (.slice a0 n0 c0) := hR.cell 1
  refine ⟨h.blk.kept hg (fun e => ?_), h.bm, h.bw, h.bc, h.ne, h.wm.kept hg (blk_map hR h.wm), fun i k => ?_, h.cm.kept hg (blk_map hR h.cm), fun k => (h.cv k).blk hR hg, h.cn⟩
  · obtain rfl := Option.some.inj e
    have h1 := h.blk
    unfold Blk at h1 hR
    rw [h1] at hR
    cases hR
  · have := h.wv i k
    cases ho : C (i, k) with
    | none => rw [ho] at this; exact this
    | some v => rw [ho] at this; obtain ⟨a, c, e, ht⟩ := this; exact ⟨a, c, e, ht.set2 u0 u1 r0 r1⟩
theorem KeptM.set2 {B R : Nat} {w0 w : World} (h : KeptM B w0 w) (hR : w0.heap.size ≤ R) (u0 u1 : Value) : KeptM B w0 ((w.setCell ⟨R, 0, none⟩ u0).setCell ⟨R, 1, none⟩ u1) := by
  have hg := grown_set2 w R u0 u1
  exact ⟨hg.os.trans h.os, hg.tape.trans h.tape, hg.output.trans h.output, Nat.le_trans h.size hg.size, fun k hk hn => (hg.block k (Nat.lt_of_lt_of_le hk h.size) (fun e => by have := Option.some.inj e; omega)).trans (h.block k hk hn)⟩
end Go.Proofs.YtkjfafnnnkjoeaaGreatDoor
