/- What a call's arguments read as, they read as behind a call that makes memory alone: no type has to be opened and shut. No program. -/
import Derived.ChangeReads
import Derived.ChangeOld
import Derived.ChangeBears
import Derived.Below
namespace Go.Proofs.YtogkdekjcbljnaaDoor
open Go.RowKit
section
variable {H : Type} {enc : TypeId × Value → H} {P : Program} {w : World} {base : Nat} {T : TypeId → Prop}

theorem trodStep_spare {sp : Nat → Bool} (K : Kids P T) (hz : ∀ t e, T t → P.underlying t = some (.slice e) → 0 < P.cellsOf e) {r r' : TypeId → List Value → Option (DataW H × List MemPlace)}
    (hr : ∀ t cs x, T t → r t cs = some x → (∀ p ∈ x.2, sp p.block = true) → r' t cs = some x) {t : TypeId} (hT : T t) {cs : List Value} {x : DataW H × List MemPlace}
    (h : DataW.trodStep enc P w base (fun _ => true) true r t cs = some x) (hs : ∀ p ∈ x.2, sp p.block = true) : DataW.trodStep enc P w base sp true r' t cs = some x := by
  unfold DataW.trodStep at h ⊢
  split at h
  case h_1 => simpa using h
  case h_2 => simpa using h
  case h_3 => simpa using h
  case h_4 => simpa using h
  case h_5 => simpa using h
  case h_6 e a _ =>
    simp only [Option.map_eq_some_iff, Option.bind_eq_some_iff] at h ⊢
    obtain ⟨y, ⟨cs', hc, hy⟩, rfl⟩ := h
    exact ⟨y, ⟨cs', hc, hr _ _ _ (K.pointer hT ‹_›) hy fun p hp => hs p (by simp [hp])⟩, rfl⟩
  case h_7 => simpa using h
  case h_8 e a len cap hu =>
    simp only at h ⊢
    split at h
    · rename_i hcond
      rw [if_pos hcond]
      simp only [Option.map_eq_some_iff, Option.bind_eq_some_iff] at h ⊢
      obtain ⟨elems, he, rest, hrest, rfl⟩ := h
      have hpos := hz _ _ hT hu
      have one : ∀ (i : Nat) (y : DataW H × List MemPlace), y ∈ elems ++ rest → (w.cells? base (a.add (i * P.cellsOf e)) (P.cellsOf e)).bind (r e) = some y → (w.cells? base (a.add (i * P.cellsOf e)) (P.cellsOf e)).bind (r' e) = some y := by
        intro i y hy h1
        simp only [Option.bind_eq_some_iff] at h1 ⊢
        obtain ⟨cs', hc, hy'⟩ := h1
        exact ⟨cs', hc, hr _ _ _ (K.slice hT hu) hy' fun p hp => hs p (List.mem_append.2 (.inr (List.mem_flatMap.2 ⟨y, hy, hp⟩)))⟩
      refine ⟨elems, mapM_carry he fun i y _ hy h1 => ?_, rest, ?_, rfl⟩
      · have := one i y (by simp [hy]) (by simpa using h1)
        simpa using this
      · rw [if_pos trivial] at hrest
        by_cases hsp : sp a.block = true
        · rw [if_pos hsp]
          refine mapM_carry hrest fun j y _ hy h1 => ?_
          have := one (len + j) y (by simp [hy]) (by simpa using h1)
          simpa using this
        · rw [if_neg hsp]
          have hl : rest.length = cap - len := by simpa using mapM_some_length hrest
          by_cases h0 : rest = []
          · simp [h0]
          · exfalso
            have hlen : 0 < rest.length := by cases rest with
              | nil => exact absurd rfl h0
              | cons _ _ => simp
            have hm : MemPlace.cell a.block (a.off + 0) ∈ MemPlace.row a ((elems.length + rest.length) * P.cellsOf e) := MemPlace.mem_row.2 ⟨0, Nat.mul_pos (by omega) hpos, rfl⟩
            exact hsp (hs _ (List.mem_append.2 (.inl hm)))
    · cases h
  case h_9 =>
    split at h
    · rename_i hc
      rw [if_pos hc]
      simp only [Option.map_eq_some_iff] at h ⊢
      obtain ⟨xs, hx, rfl⟩ := h
      exact ⟨xs, mapM_carry hx fun f y hf hy h1 => hr _ _ _ ((K.struct hT ‹_›).1 f hf) h1 fun p hp => hs p (List.mem_flatMap.2 ⟨y, hy, hp⟩), rfl⟩
    · cases h
  case h_10 =>
    split at h
    · rename_i hc
      rw [if_pos hc]
      simp only [Option.map_eq_some_iff] at h ⊢
      obtain ⟨xs, hx, rfl⟩ := h
      exact ⟨xs, mapM_carry hx fun f y _ hy h1 => hr _ _ _ (K.array hT ‹_›).1 h1 fun p hp => hs p (List.mem_flatMap.2 ⟨y, hy, hp⟩), rfl⟩
    · cases h
  case h_11 => simpa using h
  case h_12 => simpa using h
  case h_13 => simpa using h
  case h_14 k e b _ =>
    split at h
    · rename_i es clock hb
      split at h
      · rename_i hc
        rw [if_pos hc]
        simp only [Option.bind_eq_some_iff] at h ⊢
        obtain ⟨entries, he, hd⟩ := h
        split at hd
        · have hx := Option.some.inj hd
          subst hx
          rename_i hrise
          refine ⟨entries, mapM_carry he fun z y _ hy h1 => ?_, by rw [if_pos hrise]⟩
          simp only [Option.bind_eq_some_iff] at h1 ⊢
          obtain ⟨key, hk, h2⟩ := h1
          refine ⟨key, hk, ?_⟩
          split at h2
          · rename_i hf
            rw [if_pos hf]
            simp only [Option.map_eq_some_iff] at h2 ⊢
            obtain ⟨q, hq, rfl⟩ := h2
            exact ⟨q, hr _ _ _ (K.map hT ‹_›) hq fun p hp => hs p (by simp only [List.mem_cons]; exact .inr (List.mem_flatMap.2 ⟨_, hy, hp⟩)), rfl⟩
          · cases h2
        · cases hd
      · cases h
    · cases h
  case h_15 => simpa using h
  case h_16 => simpa using h
  case h_17 => simpa using h
  case h_18 => simpa using h
  case h_19 => simpa using h
  case h_20 => simpa using h
  case h_21 => cases h

theorem trod_spare {sp : Nat → Bool} (K : Kids P T) (hz : ∀ t e, T t → P.underlying t = some (.slice e) → 0 < P.cellsOf e) : ∀ (n : Nat) (t : TypeId) (cs : List Value) (x : DataW H × List MemPlace), T t →
    DataW.trod enc P w base (fun _ => true) true n t cs = some x → (∀ p ∈ x.2, sp p.block = true) → DataW.trod enc P w base sp true n t cs = some x := by
  intro n
  induction n with
  | zero => intro t cs x _ h; simp [DataW.trod] at h
  | succ n ih =>
    intro t cs x hT h hs
    rw [DataW.trod_step] at h ⊢
    exact trodStep_spare K hz ih hT h hs

theorem trodAll_keep {W' : World} {sp : Nat → Bool} (K : Kids P T) (hz : ∀ t e, T t → P.underlying t = some (.slice e) → 0 < P.cellsOf e) (hb : Below w.heap.size w W') : ∀ {ts : List TypeId} {vs : List Value} {ds : List (DataW H)} {ps : List MemPlace}, (∀ t ∈ ts, T t) →
    DataW.TrodAll enc P w base (fun _ => true) true ts vs ds ps → (∀ p ∈ ps, sp p.block = true) → DataW.TrodAll enc P W' base sp true ts vs ds ps
  | [], [], [], _, _, h, _ => h
  | _ :: _, _ :: _, _ :: _, _, hT, ⟨a, b, ⟨n, h1⟩, h2, e⟩, hs => by
    subst e
    have hlt := DataW.trod_lt n _ _ _ h1
    exact ⟨a, b, ⟨n, DataW.trod_carry n _ _ _ (trod_spare K hz n _ _ _ (hT _ (by simp)) h1 fun p hp => hs p (by simp only at hp; simp [hp])) fun p hp => hb.same (hlt p hp)⟩, trodAll_keep K hz hb (fun t ht => hT t (by simp [ht])) h2 (fun p hp => hs p (by simp [hp])), rfl⟩
end

theorem ownsRow_later {w w' : World} {base : Nat} {e : TypeId} {size : Nat} {v : Value} {n : Nat} {xs : List Value} (h : w.ownsRow base e size v n xs) (hb : Below w.heap.size w w') : w'.ownsRow base e size v n xs :=
  ⟨h.1, h.2.imp id fun ⟨g, cap, cur, hv, hbg, hg, r⟩ => ⟨g, cap, cur, hv, hbg, (hb.block g (Array.getElem?_eq_some_iff.1 hg).1).trans hg, r⟩⟩

/-- No slice of elements without a cell. -/
def slicesFull (P : Program) : Bool := (List.range P.types.size).all fun t => match P.underlying t with | some (.slice e) => decide (0 < P.cellsOf e) | _ => true
theorem slicesFull_at {P : Program} (h : slicesFull P = true) : ∀ t e, t < P.types.size → P.underlying t = some (.slice e) → 0 < P.cellsOf e := by
  intro t e ht hu
  have := List.all_eq_true.1 h t (by simpa using ht)
  simpa [hu] using this
end Go.Proofs.YtogkdekjcbljnaaDoor
