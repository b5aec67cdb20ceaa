/- acks: an Acks in memory. -/
import Derived.Test.YtogkdekjcbljnaaDoorAkKey
import Derived.Test.YtogkdekjcbljnaaDoorAkRow
namespace Go.Proofs.YtogkdekjcbljnaaDoor
open Go.RowKit Go.Lib

/-- Its blocks: itself, its three maps. -/
structure AkB where
  m : Nat
  mt : Nat
  mr : Nat
  mo : Nat
/-- Blocks that it may turn. -/
def MineA (b : AkB) (B : Nat) (w : World) (k : Nat) : Prop := (B ≤ k ∧ ∃ c fz, w.heap[k]? = some (.cells c 82 fz)) ∨ ((k = b.mt ∨ k = b.mr ∨ k = b.mo) ∧ ∃ es clock, w.heap[k]? = some (.map es clock))
structure KeptA (b : AkB) (B : Nat) (w w' : World) : Prop where
  os : w'.os = w.os
  tape : w'.tape = w.tape
  output : w'.output = w.output
  size : w.heap.size ≤ w'.heap.size
  block : ∀ k, k < w.heap.size → ¬ MineA b B w k → w'.heap[k]? = w.heap[k]?
section
variable {b : AkB} {B : Nat} {w w' w1 w2 : World}
theorem MineA.back {k : Nat} (h : MineA b B w' k) (e : w'.heap[k]? = w.heap[k]?) : MineA b B w k := by
  rcases h with ⟨h1, c, fz, h2⟩ | ⟨h1, es, clock, h2⟩
  · exact .inl ⟨h1, c, fz, by rw [← e]; exact h2⟩
  · exact .inr ⟨h1, es, clock, by rw [← e]; exact h2⟩
theorem KeptA.refl (b : AkB) (B : Nat) (w : World) : KeptA b B w w := ⟨rfl, rfl, rfl, Nat.le_refl _, fun _ _ _ => rfl⟩
theorem KeptA.of (h : Below w.heap.size w w') : KeptA b B w w' := ⟨h.os, h.tape, h.output, h.size, fun k hk _ => h.block k hk⟩
theorem KeptA.trans (h : KeptA b B w w1) (h' : KeptA b B w1 w2) : KeptA b B w w2 :=
  ⟨h'.os.trans h.os, h'.tape.trans h.tape, h'.output.trans h.output, Nat.le_trans h.size h'.size, fun k hk hn => by
    have e := h.block k hk hn
    exact (h'.block k (Nat.lt_of_lt_of_le hk h.size) (fun hm => hn (hm.back e))).trans e⟩
theorem KeptA.below (h : KeptA b B w w') (hB : B ≤ w.heap.size) (h1 : B ≤ b.mt) (h2 : B ≤ b.mr) (h3 : B ≤ b.mo) : Below B w w' :=
  ⟨h.os, h.tape, h.output, h.size, fun k hk => h.block k (by omega) (by
    rintro (⟨hm, _⟩ | ⟨hm, _⟩)
    · omega
    · omega)⟩
theorem KeptA.blk {p : Nat} {c : Array Value} {t : TypeId} (h : KeptA b B w w') (hb : Blk w p c t) (ht : t ≠ 82) : Blk w' p c t := by
  refine (h.block p hb.lt ?_).trans hb
  rintro (⟨_, c', fz, hc⟩ | ⟨_, es, clock, hc⟩)
  · rw [show w.heap[p]? = _ from hb] at hc
    injection hc with hc; injection hc with _ e _
    exact ht e
  · rw [show w.heap[p]? = _ from hb] at hc
    cases hc
theorem KeptA.map {p : Nat} {es : Array MapEntry} {clock : Nat} (h : KeptA b B w w') (hb : w.heap[p]? = some (.map es clock)) (h1 : p ≠ b.mt) (h2 : p ≠ b.mr) (h3 : p ≠ b.mo) : w'.heap[p]? = some (.map es clock) := by
  refine (h.block p (Array.getElem?_eq_some_iff.1 hb).1 ?_).trans hb
  rintro (⟨_, c', fz, hc⟩ | ⟨hm, _⟩)
  · rw [hb] at hc; cases hc
  · omega
theorem own_at {base size n : Nat} {e : TypeId} {v : Value} {xs : List Value} (h : w.ownsRow base e size v n xs) (hs : ∀ g, v.ownBlock = some g → w'.heap[g]? = w.heap[g]?) : w'.ownsRow base e size v n xs := by
  refine ⟨h.1, ?_⟩
  rcases h.2 with hn | ⟨g, cap, cur, rfl, hb, hg, rest⟩
  · exact .inl hn
  · exact .inr ⟨g, cap, cur, rfl, hb, (hs g rfl).trans hg, rest⟩
theorem own_heap {base size n : Nat} {e : TypeId} {v : Value} {xs : List Value} (h : w.ownsRow base e size v n xs) {g : Nat} (hg : v.ownBlock = some g) : base ≤ g ∧ g < w.heap.size ∧ ∃ c fz, w.heap[g]? = some (.cells c e fz) := by
  rcases h.2 with ⟨rfl, _⟩ | ⟨g', cap, cur, rfl, hb, hh, rest⟩
  · cases hg
  · cases hg
    exact ⟨hb, (Array.getElem?_eq_some_iff.1 hh).1, _, _, hh⟩
theorem KeptA.own {base size n : Nat} {e : TypeId} {v : Value} {xs : List Value} (h : KeptA b B w w') (ho : w.ownsRow base e size v n xs) (ht : e ≠ 82) : w'.ownsRow base e size v n xs := by
  refine own_at ho fun g hg => ?_
  obtain ⟨_, hlt, c, fz, hc⟩ := own_heap ho hg
  refine h.block g hlt ?_
  rintro (⟨_, c', fz', hc'⟩ | ⟨_, es, clock, hc'⟩)
  · rw [hc] at hc'
    injection hc' with hc'; injection hc' with _ e' _
    exact ht e'
  · rw [hc] at hc'; cases hc'
theorem KeptA.row {base size n : Nat} {v : Value} {xs : List Value} (ho : w.ownsRow base 82 size v n xs) (hB : B ≤ base) (hg : w.grownBy w' v.ownBlock) : KeptA b B w w' := by
  refine ⟨hg.os, hg.tape, hg.output, hg.size, fun k hk hn => hg.block k hk fun e => hn ?_⟩
  obtain ⟨h1, _, c, fz, hc⟩ := own_heap ho e.symm
  exact .inl ⟨Nat.le_trans hB h1, c, fz, hc⟩
theorem KeptA.grown {m : Nat} (hg : w.grownBy w' (some m)) (hm : m = b.mt ∨ m = b.mr ∨ m = b.mo) (hc : ∃ es clock, w.heap[m]? = some (.map es clock)) : KeptA b B w w' :=
  ⟨hg.os, hg.tape, hg.output, hg.size, fun k hk hn => hg.block k hk fun e => hn (.inr (by cases e; exact ⟨hm, hc⟩))⟩
theorem Blk.later {p : Nat} {c : Array Value} {t : TypeId} (h : Blk w p c t) (hb : Below w.heap.size w w') : Blk w' p c t := h.below hb h.lt
theorem Blk.ne {p q : Nat} {c d : Array Value} {t u : TypeId} (h : Blk w p c t) (h' : Blk w q d u) (ht : t ≠ u) : p ≠ q := by
  rintro rfl
  unfold Blk at h h'
  rw [h] at h'
  injection h' with h'; injection h' with _ e _
  exact ht e
end
/-- What is refused of a key, in memory. -/
def RfAt (base : Nat) (w : World) (o : Option Value) (l : List Bd) : Prop := match o with
  | none => l = []
  | some v => w.ownsRow base 82 3 v l.length (bdCells l)
structure AkIn (base : Nat) (b : AkB) (A : Ak) (CT : Tk → Option Value) (CR CN : Ky → Option Value) (w : World) : Prop where
  blk : Blk w b.m #[.map (some b.mt), .map (some b.mr), .map (some b.mo)] 57
  bm : base ≤ b.m
  bt : base ≤ b.mt
  br : base ≤ b.mr
  bo : base ≤ b.mo
  n1 : b.mt ≠ b.mr
  n2 : b.mt ≠ b.mo
  n3 : b.mr ≠ b.mo
  tm : KMap tkE tkK w b.mt CT
  tv : ∀ k i, (CT (k, i)).getD (.int .u64 0) = .int .u64 (A.T k i : Int)
  rm : KMap kyE kyK w b.mr CR
  rv : ∀ k, RfAt base w (CR k) (A.R k)
  rd : ∀ k k' v v' g, k ≠ k' → CR k = some v → CR k' = some v' → v.ownBlock = some g → v'.ownBlock ≠ some g
  nm : KMap kyE kyK w b.mo CN
  nv : ∀ k, CN k = (A.N k).map fun v => .int .u64 (v : Int)
theorem RfAt.later {base : Nat} {w w' : World} {o : Option Value} {l : List Bd} (h : RfAt base w o l) (hb : Below w.heap.size w w') : RfAt base w' o l := by
  cases o with
  | none => exact h
  | some v => exact own_below h hb
theorem AkIn.later {base : Nat} {b : AkB} {A : Ak} {CT : Tk → Option Value} {CR CN : Ky → Option Value} {w w' : World} (h : AkIn base b A CT CR CN w) (hb : Below w.heap.size w w') : AkIn base b A CT CR CN w' :=
  ⟨h.blk.later hb, h.bm, h.bt, h.br, h.bo, h.n1, h.n2, h.n3, h.tm.below hb h.tm.lt, h.tv, h.rm.below hb h.rm.lt, fun k => (h.rv k).later hb, h.rd, h.nm.below hb h.nm.lt, h.nv⟩
def AkIs (base : Nat) (b : AkB) (A : Ak) (w : World) : Prop := AkOk A ∧ ∃ CT CR CN, AkIn base b A CT CR CN w
theorem AkIs.later {base : Nat} {b : AkB} {A : Ak} {w w' : World} (h : AkIs base b A w) (hb : Below w.heap.size w w') : AkIs base b A w' := by
  obtain ⟨h1, CT, CR, CN, h3⟩ := h
  exact ⟨h1, CT, CR, CN, h3.later hb⟩
theorem AkIs.hB {base : Nat} {b : AkB} {A : Ak} {w : World} (h : AkIs base b A w) : base ≤ w.heap.size := by
  obtain ⟨_, CT, CR, CN, h3⟩ := h
  exact Nat.le_trans h3.bm (Nat.le_of_lt h3.blk.lt)
theorem KeptA.low {base : Nat} {b : AkB} {A : Ak} {w w' : World} (hk : KeptA b base w w') (h : AkIs base b A w) : Below base w w' := by
  have hB := h.hB
  obtain ⟨_, CT, CR, CN, h3⟩ := h
  exact hk.below hB h3.bt h3.br h3.bo
end Go.Proofs.YtogkdekjcbljnaaDoor
