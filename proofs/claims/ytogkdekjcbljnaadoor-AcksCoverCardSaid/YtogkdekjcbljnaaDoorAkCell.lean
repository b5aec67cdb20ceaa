/- acks: a law's own blocks, set beside an Acks; != of keys. -/
import Derived.Test.YtogkdekjcbljnaaDoorAkLaw
namespace Go.Proofs.YtogkdekjcbljnaaDoor
open Go.RowKit

section
variable {base : Nat} {b : AkB} {A : Ak} {CT : Tk → Option Value} {CR CN : Ky → Option Value} {w w' : World} {p : Nat} {c : Array Value} {T : TypeId} {g n : Addr} {W : World}
theorem AkIn.cell (h : AkIn base b A CT CR CN w) (hb : Blk w p c T) (h1 : T ≠ 57) (h2 : T ≠ 82) (hg : w.grownBy w' (some p)) : AkIn base b A CT CR CN w' := by
  have hkm : ∀ {κ : Type} {enc : κ → Value} {ok : κ → Prop} {m : Nat} {C : κ → Option Value}, KMap enc ok w m C → KMap enc ok w' m C := fun hm => hm.kept hg (fun e => kmap_ne hm hb (Option.some.inj e).symm)
  refine ⟨h.blk.kept hg (fun e => Blk.ne h.blk hb (fun e => h1 e.symm) (Option.some.inj e)), h.bm, h.bt, h.br, h.bo, h.n1, h.n2, h.n3, hkm h.tm, h.tv, hkm h.rm, fun k' => ?_, h.rd, hkm h.nm, h.nv⟩
  have hr := h.rv k'
  cases hC' : CR k' with
  | none => rw [hC'] at hr; exact hr
  | some u =>
    rw [hC'] at hr
    refine own_other (v := u) hr hg fun g hgu e2 => ?_
    obtain ⟨_, _, c', fz', hc'⟩ := own_heap hr hgu
    have hb' := hb
    unfold Blk at hb'
    rw [← Option.some.inj e2, hb'] at hc'
    injection hc' with hc'; injection hc' with _ e3 _
    exact h2 e3
theorem AkL.set (h : AkL base b A g n W w) (hb : Blk w p c T) (h1 : T ≠ 57) (h2 : T ≠ 82) (hp : base ≤ p) (j : Nat) (v : Value) : AkL base b A g n W (w.setCell ⟨p, j, none⟩ v) := by
  have hbl : Below base w (w.setCell ⟨p, j, none⟩ v) := (Below.refl _ _).setCell (p := ⟨p, j, none⟩) hp v
  obtain ⟨hok, CT, CR, CN, hin⟩ := h.i
  exact ⟨⟨hok, CT, CR, CN, hin.cell hb h1 h2 (grown_set w p j v)⟩, ⟨(hbl.cell (p := ⟨1, 0, none⟩) h.lg).trans h.g.1, Nat.lt_of_lt_of_le h.g.2 hbl.size⟩, gn_base h.n h.ln hbl, h.lg, h.ln, h.lb, h.k.trans (hbl.mono h.lb)⟩
end
theorem ck_neqKey (a b : Int) (x y : ByteArray) (w : World) : (binOp .neq 27 (.agg #[.int .i64 a, .string x]) (.agg #[.int .i64 b, .string y])).run Tryd.prog w = .ok (.bool (!(a == b && x.toList == y.toList))) w := by
  rw [run_neq_struct, ck_eqKey]
  rfl
theorem ck_neqSame (a : Int) (x : ByteArray) (w : World) : (binOp .neq 27 (.agg #[.int .i64 a, .string x]) (.agg #[.int .i64 a, .string x])).run Tryd.prog w = .ok (.bool false) w := by
  rw [ck_neqKey]
  simp
end Go.Proofs.YtogkdekjcbljnaaDoor
