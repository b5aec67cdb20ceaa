/- resource: a version of a resource, as bytes: plain. -/
import Derived.Test.YtjolgalfjahceaaGreatDoorCkRight
import Derived.Test.YtjolgalfjahceaaGreatDoorVrPs
import Derived.Test.YtjolgalfjahceaaGreatDoorLast
namespace Go.Proofs.YtjolgalfjahceaaGreatDoor

/-- A version of a resource: its type, its name, its Seq, whether it is gone, its body. -/
structure Vr where
  t : Int
  x : ByteArray
  q : Nat
  g : Bool
  s : ByteArray
abbrev Vr.v (r : Vr) : Value := rsV r.t r.x (r.q : Int) r.g r.s
def Vr.ok (r : Vr) : Bool := rsOk r.t r.x (r.q : Int) r.g r.s
def Vr.put (r : Vr) : List UInt8 := numberL 1 r.t.toNat ++ textL 2 r.x ++ numberL 3 r.q ++ (if r.g then numberL 4 1 else []) ++ (if r.s.size = 0 then [] else textL 5 r.s)
def Vr.fds (r : Vr) : List Fd := [⟨1, 0, r.t.toNat, []⟩] ++ [⟨2, 2, 0, r.x.data.toList⟩] ++ [⟨3, 0, r.q, []⟩] ++ (if r.g then [⟨4, 0, 1, []⟩] else []) ++ (if r.s.size = 0 then [] else [⟨5, 2, 0, r.s.data.toList⟩])
structure Vr.Fits (r : Vr) : Prop where
  t1 : 1 ≤ r.t
  t5 : r.t ≤ 5
  x : r.x.size ≤ 64
  q : r.q < 2 ^ 64
  s : r.s.size ≤ 1024
theorem Vr.put_ps {r : Vr} (h : r.Fits) : Ps r.put r.fds := by
  have h1 := h.t1
  have h5 := h.t5
  have hx := h.x
  have hq := h.q
  have hs := h.s
  unfold Vr.put Vr.fds
  refine ((((Ps.number 1 _ (by omega) (by decide) (by decide)).app (Ps.text 2 _ (by omega) (by decide) (by decide))).app (Ps.number 3 _ hq (by decide) (by decide))).app ?_).app ?_
  · split
    · exact Ps.number 4 1 (by decide) (by decide) (by decide)
    · exact Ps.nil
  · split
    · exact Ps.nil
    · exact Ps.text 5 _ (by omega) (by decide) (by decide)

def lastF (num : Int) (fs : List Fd) : Fd := (withL num fs).getLast?.getD ⟨0, 0, 0, []⟩
def othK (f : Fd) : Bool := if f.num = 1 ∨ f.num = 3 ∨ f.num = 4 then !(f.kind == 0) else if f.num = 2 ∨ f.num = 5 then !(f.kind == 2) else false
def madeV (fs : List Fd) : Vr := ⟨((lastF 1 fs).n : Int), ⟨(lastF 2 fs).s.toArray⟩, (lastF 3 fs).n, decide ((lastF 4 fs).n = 1), ⟨(lastF 5 fs).s.toArray⟩⟩
def madeOk (fs : List Fd) : Bool := !(decide (5 < (lastF 1 fs).n)) && !(decide (1 < (lastF 4 fs).n))
def getV (l : List UInt8) : Option Vr := (parse l).bind fun fs => if fs.any othK then none else if madeOk fs && (madeV fs).ok then some (madeV fs) else none

theorem withL_more {num : Int} {more : List Fd} (hn : num ≤ 5) (hm : ∀ f ∈ more, 6 ≤ f.num) : withL num more = [] := by
  unfold withL
  rw [List.filter_eq_nil_iff]
  intro f hf
  have := hm f hf
  simp [hasNum]; omega
theorem lastF_more {num : Int} {fs more : List Fd} (hn : num ≤ 5) (hm : ∀ f ∈ more, 6 ≤ f.num) : lastF num (fs ++ more) = lastF num fs := by
  have h : withL num (fs ++ more) = withL num fs := by
    have := withL_more hn hm
    unfold withL at this ⊢
    rw [List.filter_append, this, List.append_nil]
  unfold lastF; rw [h]
theorem bytes_nil {s : ByteArray} (h : s.size = 0) : (⟨([] : List UInt8).toArray⟩ : ByteArray) = s := by
  apply ByteArray.ext; apply Array.toList_inj.1
  exact (List.eq_nil_of_length_eq_zero (show s.data.toList.length = 0 from h)).symm
theorem bytes_same (s : ByteArray) : (⟨s.data.toList.toArray⟩ : ByteArray) = s := by
  apply ByteArray.ext; simp
/-- What was put is got, also with a field behind it that nobody knows. -/
theorem fds_get {r : Vr} (hf : r.Fits) (more : List Fd) (hm : ∀ f ∈ more, 6 ≤ f.num) : madeV (r.fds ++ more) = r ∧ madeOk (r.fds ++ more) = true ∧ (r.fds ++ more).any othK = false := by
  obtain ⟨t, x, q, g, s⟩ := r
  have h1 := hf.t1
  have h5 := hf.t5
  simp only at h1 h5
  have ht : ((t.toNat : Nat) : Int) = t := by omega
  have l1 : lastF 1 ((Vr.mk t x q g s).fds ++ more) = ⟨1, 0, t.toNat, []⟩ := by
    rw [lastF_more (by decide) hm]
    cases g <;> by_cases hz : s.size = 0 <;> simp [Vr.fds, hz, lastF, withL, hasNum]
  have l2 : lastF 2 ((Vr.mk t x q g s).fds ++ more) = ⟨2, 2, 0, x.data.toList⟩ := by
    rw [lastF_more (by decide) hm]
    cases g <;> by_cases hz : s.size = 0 <;> simp [Vr.fds, hz, lastF, withL, hasNum]
  have l3 : lastF 3 ((Vr.mk t x q g s).fds ++ more) = ⟨3, 0, q, []⟩ := by
    rw [lastF_more (by decide) hm]
    cases g <;> by_cases hz : s.size = 0 <;> simp [Vr.fds, hz, lastF, withL, hasNum]
  have l4 : (lastF 4 ((Vr.mk t x q g s).fds ++ more)).n = if g then 1 else 0 := by
    rw [lastF_more (by decide) hm]
    cases g <;> by_cases hz : s.size = 0 <;> simp [Vr.fds, hz, lastF, withL, hasNum]
  have l5 : (⟨(lastF 5 ((Vr.mk t x q g s).fds ++ more)).s.toArray⟩ : ByteArray) = s := by
    rw [lastF_more (by decide) hm]
    by_cases hz : s.size = 0
    · rw [show (lastF 5 (Vr.mk t x q g s).fds).s = [] by cases g <;> simp [Vr.fds, hz, lastF, withL, hasNum]]
      exact bytes_nil hz
    · rw [show (lastF 5 (Vr.mk t x q g s).fds).s = s.data.toList by cases g <;> simp [Vr.fds, hz, lastF, withL, hasNum]]
  refine ⟨?_, ?_, ?_⟩
  · unfold madeV
    rw [l1, l2, l3, l4, l5]
    simp only [ht, bytes_same]
    cases g <;> rfl
  · unfold madeOk
    rw [l1, l4]
    have : ¬ 5 < t.toNat := by omega
    cases g <;> simp [this]
  · rw [List.any_append, Bool.or_eq_false_iff]
    constructor
    · cases g <;> by_cases hz : s.size = 0 <;> simp [Vr.fds, hz, othK]
    · rw [List.any_eq_false]
      intro f hff
      have := hm f hff
      have n1 : ¬ (f.num = 1 ∨ f.num = 3 ∨ f.num = 4) := by omega
      have n2 : ¬ (f.num = 2 ∨ f.num = 5) := by omega
      unfold othK
      rw [if_neg n1, if_neg n2]; simp
theorem get_put {r : Vr} (hf : r.Fits) (hok : r.ok = true) {l : List UInt8} {more : List Fd} (hl : Ps l more) (hm : ∀ f ∈ more, 6 ≤ f.num) : getV (r.put ++ l) = some r := by
  have hp : parse (r.put ++ l) = some (r.fds ++ more) := ((Vr.put_ps hf).app hl).whole
  obtain ⟨e1, e2, e3⟩ := fds_get hf more hm
  unfold getV
  rw [hp]
  simp only [Option.bind_some, e3, e2, e1, hok]
  simp
end Go.Proofs.YtjolgalfjahceaaGreatDoor
