/- resource: a version whose bytes are cut is another one, or none: plain. -/
import Derived.Test.YthihjedfnfbokaaDoorVrThingA
namespace Go.Proofs.YthihjedfnfbokaaDoor

theorem parse_some_ne {l : List UInt8} {fs : List Fd} (hl : l ≠ []) (h : parse l = some fs) : fs ≠ [] := by
  intro hf
  subst hf
  cases hfo : fieldOf l with
  | none => rw [parse_none hfo (List.length_pos_iff.2 hl)] at h; cases h
  | some p =>
    obtain ⟨f, k⟩ := p
    rw [parse_some hfo] at h
    cases hp : parse (l.drop k) with
    | none => rw [hp] at h; cases h
    | some r => rw [hp] at h; cases h
/-- What is read of the bytes' beginning are the first fields, not all of them. -/
theorem parse_take {l : List UInt8} {all fs : List Fd} (ha : parse l = some all) (j : Nat) (hj : j < l.length) (h : parse (l.take j) = some fs) : ∃ k, k < all.length ∧ fs = all.take k := by
  have h1 := parse_append (t := l.drop j) _ (Nat.le_refl _) h
  rw [List.take_append_drop, ha] at h1
  have hne : l.drop j ≠ [] := by
    intro e
    have := congrArg List.length e
    rw [List.length_drop] at this
    simp at this; omega
  cases hp : parse (l.drop j) with
  | none => rw [hp] at h1; cases h1
  | some r =>
    rw [hp] at h1
    have e : all = fs ++ r := by simpa using h1
    have hr := List.length_pos_iff.2 (parse_some_ne hne hp)
    refine ⟨fs.length, ?_, ?_⟩
    · rw [e, List.length_append]; omega
    · rw [e, List.take_left]
theorem cut_other {r : Vr} (hm : r.Made) (j : Nat) (hj : j < r.put.length) : getV (r.put.take j) ≠ some r := by
  intro h
  have hps : parse r.put = some r.fds := (Vr.put_ps hm.fits).whole
  cases hp : parse (r.put.take j) with
  | none => unfold getV at h; rw [hp] at h; cases h
  | some fs =>
    obtain ⟨k, hk, e⟩ := parse_take hps j hj hp
    have hv : madeV fs = r := by
      unfold getV at h
      rw [hp] at h
      simp only [Option.bind_some] at h
      split at h
      · cases h
      · split at h
        · exact Option.some.inj h
        · cases h
    rw [e] at hv
    obtain ⟨t, x, q, g, s⟩ := r
    have ht := hm.t1
    have hq := hm.q1
    simp only at ht hq
    have vt : ((lastF 1 ((Vr.mk t x q g s).fds.take k)).n : Int) = t := congrArg Vr.t hv
    have vq : (lastF 3 ((Vr.mk t x q g s).fds.take k)).n = q := congrArg Vr.q hv
    have vg : decide ((lastF 4 ((Vr.mk t x q g s).fds.take k)).n = 1) = g := congrArg Vr.g hv
    have vs : (⟨(lastF 5 ((Vr.mk t x q g s).fds.take k)).s.toArray⟩ : ByteArray) = s := congrArg Vr.s hv
    have vz : (lastF 5 ((Vr.mk t x q g s).fds.take k)).s.length = s.size := congrArg ByteArray.size vs
    clear vs hv e hp h hps hj hm
    by_cases hz : s.size = 0
    · cases g with
      | false =>
        simp only [Vr.fds, hz, if_true, Bool.false_eq_true, if_false, List.append_nil, List.cons_append, List.nil_append] at hk vt vq vg vz
        simp only [List.length_cons, List.length_nil] at hk
        have : k = 0 ∨ k = 1 ∨ k = 2 := by omega
        rcases this with rfl | rfl | rfl <;> simp [lastF, withL, hasNum] at vt vq <;> omega
      | true =>
        simp only [Vr.fds, hz, if_true, List.append_nil, List.cons_append, List.nil_append] at hk vt vq vg vz
        simp only [List.length_cons, List.length_nil] at hk
        have : k = 0 ∨ k = 1 ∨ k = 2 ∨ k = 3 := by omega
        rcases this with rfl | rfl | rfl | rfl <;> simp [lastF, withL, hasNum] at vt vq vg <;> omega
    · cases g with
      | false =>
        simp only [Vr.fds, hz, Bool.false_eq_true, if_false, List.append_nil, List.cons_append, List.nil_append] at hk vt vq vg vz
        simp only [List.length_cons, List.length_nil] at hk
        have : k = 0 ∨ k = 1 ∨ k = 2 ∨ k = 3 := by omega
        rcases this with rfl | rfl | rfl | rfl <;> simp [lastF, withL, hasNum] at vt vq vz <;> omega
      | true =>
        simp only [Vr.fds, hz, if_true, if_false, List.cons_append, List.nil_append] at hk vt vq vg vz
        simp only [List.length_cons, List.length_nil] at hk
        have : k = 0 ∨ k = 1 ∨ k = 2 ∨ k = 3 ∨ k = 4 := by omega
        rcases this with rfl | rfl | rfl | rfl | rfl <;> simp [lastF, withL, hasNum] at vt vq vg vz <;> omega
theorem getV_ok {l : List UInt8} {r : Vr} (h : getV l = some r) : r.ok = true := by
  unfold getV at h
  cases hp : parse l with
  | none => rw [hp] at h; cases h
  | some fs =>
    rw [hp] at h
    simp only [Option.bind_some] at h
    split at h
    · cases h
    · split at h
      · rename_i hc
        rw [Bool.and_eq_true] at hc
        rw [← Option.some.inj h]; exact hc.2
      · cases h
end Go.Proofs.YthihjedfnfbokaaDoor
