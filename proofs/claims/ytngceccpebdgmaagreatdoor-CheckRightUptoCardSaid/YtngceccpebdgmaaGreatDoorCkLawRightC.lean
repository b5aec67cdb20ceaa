/-
  CheckRight, in its second form: with a payload that is right nothing is wrong for its own key, and something is for any other one. The condition of the form: what it reads is of bulk at most 1048576.
-/
import Derived.Test.YtngceccpebdgmaaGreatDoorCards
import Derived.Test.YtngceccpebdgmaaGreatDoorTie
import Derived.Test.YtngceccpebdgmaaGreatDoorCkLaid
import Derived.Test.YtngceccpebdgmaaGreatDoorKeepP
import Derived.Test.YtngceccpebdgmaaGreatDoorPlPutC
import Derived.Test.YtngceccpebdgmaaGreatDoorPlGet
import Derived.Test.YtngceccpebdgmaaGreatDoorAppend
import Derived.Test.YtngceccpebdgmaaGreatDoorPlMade
import Derived.Test.YtngceccpebdgmaaGreatDoorCkKinds
import Derived.Test.YtngceccpebdgmaaGreatDoorCkMadeF
import Derived.Test.YtngceccpebdgmaaGreatDoorCkMadeB
import Derived.Test.YtngceccpebdgmaaGreatDoorCkMadeD
import Derived.ChangeArms
import Derived.WideShapes
import Derived.ChangeShapes
import Derived.OpenShut
import Derived.Deep.Slices
import Derived.Test.YtngceccpebdgmaaGreatDoorKeep
import Derived.Test.YtngceccpebdgmaaGreatDoorChecked
import Derived.Test.YtngceccpebdgmaaGreatDoorCkEx
namespace Go.Proofs.YtngceccpebdgmaaGreatDoor

/-- l is these fields, whatever stands behind. -/
def Ps (l : List UInt8) (fs : List Fd) : Prop := ∀ r, parse (l ++ r) = (parse r).map (fs ++ ·)
theorem Ps.nil : Ps [] [] := fun r => by cases h : parse r <;> simp [h]
theorem Ps.app {a b : List UInt8} {fa fb : List Fd} (ha : Ps a fa) (hb : Ps b fb) : Ps (a ++ b) (fa ++ fb) := fun r => by
  rw [List.append_assoc, ha, hb]; cases parse r <;> simp
theorem Ps.whole {l : List UInt8} {fs : List Fd} (h : Ps l fs) : parse l = some fs := by
  have := h []
  rw [parse_nil] at this
  simpa using this
theorem Ps.flat {α : Type} {f : α → List UInt8} {g : α → List Fd} : ∀ {xs : List α}, (∀ x ∈ xs, Ps (f x) (g x)) → Ps (xs.flatMap f) (xs.flatMap g)
  | [], _ => Ps.nil
  | x :: xs, h => by
    simp only [List.flatMap_cons]
    exact (h x (by simp)).app (Ps.flat fun y hy => h y (by simp [hy]))
def txtF (num : Nat) (s : ByteArray) : List Fd := if s.size = 0 then [] else [⟨num, 2, 0, s.data.toList⟩]
def nmbF (num n : Nat) : List Fd := if n = 0 then [] else [⟨num, 0, n, []⟩]
theorem Ps.text (num : Int) (s : ByteArray) (hs : s.size < 2 ^ 64) (h1 : 1 ≤ num) (h2 : num ≤ 536870911) : Ps (textL num s) [⟨num.toNat, 2, 0, s.data.toList⟩] := fun r => by
  rw [parse_text num s r hs h1 h2]; cases parse r <;> rfl
theorem Ps.number (num : Int) (n : Nat) (hn : n < 2 ^ 64) (h1 : 1 ≤ num) (h2 : num ≤ 536870911) : Ps (numberL num n) [⟨num.toNat, 0, n, []⟩] := fun r => by
  rw [parse_number num n r hn h1 h2]; cases parse r <;> rfl
theorem Ps.txt (num : Int) (s : ByteArray) (hs : s.size < 2 ^ 64) (h1 : 1 ≤ num) (h2 : num ≤ 536870911) : Ps (txtL num s) (txtF num.toNat s) := by
  unfold txtL txtF
  split
  · exact Ps.nil
  · exact Ps.text num s hs h1 h2
theorem Ps.nmb (num : Int) (n : Nat) (hn : n < 2 ^ 64) (h1 : 1 ≤ num) (h2 : num ≤ 536870911) : Ps (nmbL num n) (nmbF num.toNat n) := by
  unfold nmbL nmbF
  split
  · exact Ps.nil
  · exact Ps.number num n hn h1 h2

/-- The fields that a part is put as. -/
def Pl.fds (i : Nat) (p : Pl) : List Fd := match i with
  | 0 => txtF 1 p.name
  | 1 => nmbF 2 p.port
  | 2 => txtF 3 p.route
  | 3 => p.rules.map fun r => ⟨4, 2, 0, r.all⟩
  | 4 => nmbF 5 p.policy
  | 5 => txtF 6 p.secret
  | 6 => p.addrs.map fun a => ⟨7, 2, 0, a.all⟩
  | 7 => txtF 8 p.key
  | _ => []
/-- Sizes and numbers of at most 64 bits; at most 64 rules, and addresses. -/
structure Fits (p : Pl) : Prop where
  name : p.name.size < 2 ^ 64
  port : p.port < 2 ^ 64
  route : p.route.size < 2 ^ 64
  rule : ∀ r ∈ p.rules, r.all.length < 2 ^ 64
  policy : p.policy < 2 ^ 64
  secret : p.secret.size < 2 ^ 64
  addr : ∀ a ∈ p.addrs, a.all.length < 2 ^ 64 ∧ a.port < 2 ^ 64 ∧ a.wt < 2 ^ 64
  key : p.key.size < 2 ^ 64
  rules : p.rules.length ≤ 64
  addrs : p.addrs.length ≤ 64
theorem Pl.put_ps {p : Pl} (h : Fits p) (i : Nat) : Ps (p.put i) (p.fds i) := by
  match i with
  | 0 => simp only [Pl.put, Pl.fds]; exact Ps.txt 1 _ h.name (by decide) (by decide)
  | 1 => simp only [Pl.put, Pl.fds]; exact Ps.nmb 2 _ h.port (by decide) (by decide)
  | 2 => simp only [Pl.put, Pl.fds]; exact Ps.txt 3 _ h.route (by decide) (by decide)
  | 3 =>
    simp only [Pl.put, Pl.fds]
    rw [List.map_eq_flatMap]
    exact Ps.flat fun r hr => Ps.text 4 _ (by simpa [ByteArray.size] using h.rule r hr) (by decide) (by decide)
  | 4 => simp only [Pl.put, Pl.fds]; exact Ps.nmb 5 _ h.policy (by decide) (by decide)
  | 5 => simp only [Pl.put, Pl.fds]; exact Ps.txt 6 _ h.secret (by decide) (by decide)
  | 6 =>
    simp only [Pl.put, Pl.fds]
    rw [List.map_eq_flatMap]
    exact Ps.flat fun r hr => Ps.text 7 _ (by simpa [ByteArray.size] using (h.addr r hr).1) (by decide) (by decide)
  | 7 => simp only [Pl.put, Pl.fds]; exact Ps.txt 8 _ h.key (by decide) (by decide)
  | i + 8 => exact Ps.nil
theorem Pl.puts_ps {p : Pl} (h : Fits p) (is : List Nat) : Ps (p.puts is) (is.flatMap (Pl.fds · p)) := Ps.flat fun i _ => Pl.put_ps h i
theorem takes_app {σ : Type} {one : σ → Fd → Option σ} : ∀ {a b : List Fd} {s : σ}, takes one (a ++ b) s = (takes one a s).bind (takes one b)
  | [], b, s => rfl
  | f :: a, b, s => by
    simp only [List.cons_append, takes]
    cases one s f with
    | none => rfl
    | some s' => exact takes_app
theorem one_hit {σ : Type} {kind : Nat → Nat} {step : Nat → σ → Fd → Option σ} {i : Nat} {s : σ} {f : Fd} (hn : f.num = i + 1) (hk : kind i = f.kind) : ∀ {is : List Nat}, i ∈ is → oneOf kind step is s f = step i s f
  | [], h => by cases h
  | j :: is, h => by
    unfold oneOf
    by_cases hj : j + 1 = f.num
    · obtain rfl : j = i := by omega
      rw [if_pos hj, if_pos hk]
    · rw [if_neg hj]
      rcases List.mem_cons.1 h with rfl | h
      · omega
      · exact one_hit hn hk h
theorem one_miss {σ : Type} {kind : Nat → Nat} {step : Nat → σ → Fd → Option σ} {s : σ} {f : Fd} : ∀ {is : List Nat}, (∀ j ∈ is, j + 1 ≠ f.num) → oneOf kind step is s f = some s
  | [], _ => rfl
  | j :: is, h => by
    unfold oneOf
    rw [if_neg (h j (by simp))]
    exact one_miss fun k hk => h k (by simp [hk])
theorem takes_miss {σ : Type} {kind : Nat → Nat} {step : Nat → σ → Fd → Option σ} {s : σ} {is : List Nat} : ∀ {fs : List Fd}, (∀ f ∈ fs, ∀ j ∈ is, j + 1 ≠ f.num) → takes (oneOf kind step is) fs s = some s
  | [], _ => rfl
  | f :: fs, h => by
    unfold takes
    rw [one_miss (h f (by simp))]
    exact takes_miss fun g hg => h g (by simp [hg])
theorem Pl.fds_num {p : Pl} {i : Nat} : ∀ f ∈ p.fds i, f.num = i + 1 := by
  intro f hf
  match i with
  | 0 => simp only [Pl.fds, txtF] at hf; split at hf <;> simp at hf; subst hf; rfl
  | 1 => simp only [Pl.fds, nmbF] at hf; split at hf <;> simp at hf; subst hf; rfl
  | 2 => simp only [Pl.fds, txtF] at hf; split at hf <;> simp at hf; subst hf; rfl
  | 3 => simp only [Pl.fds, List.mem_map] at hf; obtain ⟨r, _, rfl⟩ := hf; rfl
  | 4 => simp only [Pl.fds, nmbF] at hf; split at hf <;> simp at hf; subst hf; rfl
  | 5 => simp only [Pl.fds, txtF] at hf; split at hf <;> simp at hf; subst hf; rfl
  | 6 => simp only [Pl.fds, List.mem_map] at hf; obtain ⟨r, _, rfl⟩ := hf; rfl
  | 7 => simp only [Pl.fds, txtF] at hf; split at hf <;> simp at hf; subst hf; rfl
  | i + 8 => simp [Pl.fds] at hf

theorem size_nil {s : ByteArray} (h : s.size = 0) : s = ⟨#[]⟩ := by
  obtain ⟨a⟩ := s
  have : a = #[] := Array.eq_empty_of_size_eq_zero h
  rw [this]
theorem takes_txt {σ : Type} {one : σ → Fd → Option σ} {num : Nat} {s : ByteArray} {t t' : σ} (h0 : s.size = 0 → t' = t) (h1 : one t ⟨num, 2, 0, s.data.toList⟩ = some t') : takes one (txtF num s) t = some t' := by
  unfold txtF
  split
  · rename_i h; rw [h0 h]; rfl
  · simp only [takes, h1]
theorem takes_nmb {σ : Type} {one : σ → Fd → Option σ} {num n : Nat} {t t' : σ} (h0 : n = 0 → t' = t) (h1 : one t ⟨num, 0, n, []⟩ = some t') : takes one (nmbF num n) t = some t' := by
  unfold nmbF
  split
  · rename_i h; rw [h0 h]; rfl
  · simp only [takes, h1]
theorem Rl.get_all {r : Rl} (h : r.all.length < 2 ^ 64) : Rl.get r.all = some r := by
  have e := Rl.all_eq r
  have h1 := txtL_len (num := 1) r.pre (by decide)
  have h2 := txtL_len (num := 2) r.clu (by decide)
  have hl : r.all.length = (txtL 1 r.pre).length + (txtL 2 r.clu).length := by rw [e, List.length_append]
  have hp := ((Ps.txt 1 r.pre (by omega) (by decide) (by decide)).app (Ps.txt 2 r.clu (by omega) (by decide) (by decide))).whole
  rw [← e] at hp
  unfold Rl.get
  rw [allOf_some hp, takes_app, takes_txt (t' := ⟨r.pre, ⟨#[]⟩⟩) (fun h => by rw [size_nil h]; rfl) rfl]
  exact takes_txt (t' := r) (fun h => by rw [← size_nil h]) rfl
theorem Ad.get_all {a : Ad} (h : a.all.length < 2 ^ 64) (h2 : a.port < 2 ^ 64) (h3 : a.wt < 2 ^ 64) : Ad.get a.all = some a := by
  have e := Ad.all_eq a
  have h1 := txtL_len (num := 1) a.host (by decide)
  have hl : a.all.length = (txtL 1 a.host).length + ((nmbL 2 a.port).length + (nmbL 3 a.wt).length) := by rw [e, List.length_append, List.length_append]
  have hp := ((Ps.txt 1 a.host (by omega) (by decide) (by decide)).app ((Ps.nmb 2 a.port h2 (by decide) (by decide)).app (Ps.nmb 3 a.wt h3 (by decide) (by decide)))).whole
  rw [← e] at hp
  unfold Ad.get
  rw [allOf_some hp, takes_app, takes_txt (t' := ⟨a.host, 0, 0⟩) (fun h => by rw [size_nil h]; rfl) rfl]
  show takes Ad.one _ _ = _
  rw [takes_app, takes_nmb (t' := ⟨a.host, a.port, 0⟩) (fun h => by rw [h]) rfl]
  exact takes_nmb (t' := a) (fun h => by rw [← h]) rfl
theorem takes_rules {is : List Nat} (hi : 3 ∈ is) : ∀ {rs : List Rl} {s : Pl}, (∀ r ∈ rs, r.all.length < 2 ^ 64) → s.rules.length + rs.length ≤ 64 → takes (Pl.one is) (rs.map fun r => ⟨4, 2, 0, r.all⟩) s = some { s with rules := s.rules ++ rs }
  | [], s, _, _ => by simp [takes]
  | r :: rs, s, h, hl => by
    simp only [List.length_cons] at hl
    have h1 : Pl.one is s ⟨4, 2, 0, r.all⟩ = some { s with rules := s.rules ++ [r] } := by
      unfold Pl.one
      rw [one_hit (i := 3) rfl rfl hi]
      simp only [Pl.take]
      rw [if_neg (by omega), Rl.get_all (h r (by simp))]; rfl
    simp only [List.map_cons, takes, h1]
    rw [takes_rules hi (fun x hx => h x (by simp [hx])) (by simp; omega)]
    simp
theorem takes_addrs {is : List Nat} (hi : 6 ∈ is) : ∀ {rs : List Ad} {s : Pl}, (∀ a ∈ rs, a.all.length < 2 ^ 64 ∧ a.port < 2 ^ 64 ∧ a.wt < 2 ^ 64) → s.addrs.length + rs.length ≤ 64 → takes (Pl.one is) (rs.map fun r => ⟨7, 2, 0, r.all⟩) s = some { s with addrs := s.addrs ++ rs }
  | [], s, _, _ => by simp [takes]
  | r :: rs, s, h, hl => by
    simp only [List.length_cons] at hl
    have hr := h r (by simp)
    have h1 : Pl.one is s ⟨7, 2, 0, r.all⟩ = some { s with addrs := s.addrs ++ [r] } := by
      unfold Pl.one
      rw [one_hit (i := 6) rfl rfl hi]
      simp only [Pl.take]
      rw [if_neg (by omega), Ad.get_all hr.1 hr.2.1 hr.2.2]; rfl
    simp only [List.map_cons, takes, h1]
    rw [takes_addrs hi (fun x hx => h x (by simp [hx])) (by simp; omega)]
    simp

/-- s with part i as p has it. -/
def Pl.upd (i : Nat) (p s : Pl) : Pl := match i with
  | 0 => { s with name := p.name }
  | 1 => { s with port := p.port }
  | 2 => { s with route := p.route }
  | 3 => { s with rules := p.rules }
  | 4 => { s with policy := p.policy }
  | 5 => { s with secret := p.secret }
  | 6 => { s with addrs := p.addrs }
  | 7 => { s with key := p.key }
  | _ => s
def Pl.bareAt (i : Nat) (s : Pl) : Prop := match i with
  | 0 => s.name = ⟨#[]⟩
  | 1 => s.port = 0
  | 2 => s.route = ⟨#[]⟩
  | 3 => s.rules = []
  | 4 => s.policy = 0
  | 5 => s.secret = ⟨#[]⟩
  | 6 => s.addrs = []
  | 7 => s.key = ⟨#[]⟩
  | _ => True
theorem takes_part {p : Pl} (h : Fits p) {is : List Nat} {i : Nat} (hi : i ∈ is) {s : Pl} (hz : s.bareAt i) : takes (Pl.one is) (p.fds i) s = some (p.upd i s) := by
  match i, hi, hz with
  | 0, hi, hz =>
    obtain ⟨a0, a1, a2, a3, a4, a5, a6, a7⟩ := s
    exact takes_txt (fun h => by simp only [Pl.bareAt] at hz; simp [Pl.upd, hz, size_nil h]) (by unfold Pl.one; rw [one_hit (i := 0) rfl rfl hi]; rfl)
  | 1, hi, hz =>
    obtain ⟨a0, a1, a2, a3, a4, a5, a6, a7⟩ := s
    exact takes_nmb (fun h => by simp only [Pl.bareAt] at hz; simp [Pl.upd, hz, h]) (by unfold Pl.one; rw [one_hit (i := 1) rfl rfl hi]; rfl)
  | 2, hi, hz =>
    obtain ⟨a0, a1, a2, a3, a4, a5, a6, a7⟩ := s
    exact takes_txt (fun h => by simp only [Pl.bareAt] at hz; simp [Pl.upd, hz, size_nil h]) (by unfold Pl.one; rw [one_hit (i := 2) rfl rfl hi]; rfl)
  | 3, hi, hz =>
    have hz : s.rules = [] := hz
    show takes (Pl.one is) (p.rules.map fun r => ⟨4, 2, 0, r.all⟩) s = _
    rw [takes_rules hi h.rule (by have := h.rules; rw [hz]; simpa using this), hz]; rfl
  | 4, hi, hz =>
    obtain ⟨a0, a1, a2, a3, a4, a5, a6, a7⟩ := s
    exact takes_nmb (fun h => by simp only [Pl.bareAt] at hz; simp [Pl.upd, hz, h]) (by unfold Pl.one; rw [one_hit (i := 4) rfl rfl hi]; rfl)
  | 5, hi, hz =>
    obtain ⟨a0, a1, a2, a3, a4, a5, a6, a7⟩ := s
    exact takes_txt (fun h => by simp only [Pl.bareAt] at hz; simp [Pl.upd, hz, size_nil h]) (by unfold Pl.one; rw [one_hit (i := 5) rfl rfl hi]; rfl)
  | 6, hi, hz =>
    have hz : s.addrs = [] := hz
    show takes (Pl.one is) (p.addrs.map fun r => ⟨7, 2, 0, r.all⟩) s = _
    rw [takes_addrs hi h.addr (by have := h.addrs; rw [hz]; simpa using this), hz]; rfl
  | 7, hi, hz =>
    obtain ⟨a0, a1, a2, a3, a4, a5, a6, a7⟩ := s
    exact takes_txt (fun h => by simp only [Pl.bareAt] at hz; simp [Pl.upd, hz, size_nil h]) (by unfold Pl.one; rw [one_hit (i := 7) rfl rfl hi]; rfl)
  | i + 8, hi, hz => rfl
theorem takes_next {p : Pl} (h : Fits p) {is : List Nat} {i : Nat} (hi : i ∈ is) {s : Pl} (hz : s.bareAt i) (fs : List Fd) : takes (Pl.one is) (p.fds i ++ fs) s = takes (Pl.one is) fs (p.upd i s) := by
  rw [takes_app, takes_part h hi hz]; rfl
theorem getOf_ps {k : Int} (hk : (hasOf k).2 = true) {l : List UInt8} {fs : List Fd} (h : Ps l fs) : Pl.getOf k l = takes (Pl.one (hasI k)) fs Pl.zero := by
  unfold Pl.getOf
  rw [if_pos hk, allOf_some h.whole]

/-- A payload of a name alone. -/
def bareP (n : ByteArray) : Pl := ⟨n, 0, ⟨#[]⟩, [], 0, ⟨#[]⟩, [], ⟨#[]⟩⟩
/-- p has just what a payload of type k may have. -/
def OnlyOf (k : Int) (p : Pl) : Prop := ∀ i, 1 ≤ i → i ∉ hasI k → p.bareAt i
theorem flat_len {α : Type} {f : α → List UInt8} {B : Nat} : ∀ {xs : List α}, (∀ x ∈ xs, (f x).length ≤ B) → (xs.flatMap f).length ≤ xs.length * B
  | [], _ => by simp
  | x :: xs, h => by
    have h1 := h x (by simp)
    have h2 := flat_len (f := f) (B := B) (xs := xs) fun y hy => h y (List.mem_cons_of_mem _ hy)
    simp only [List.flatMap_cons, List.length_append, List.length_cons, Nat.add_mul]
    omega
theorem numberL_le (num : Int) (n : Nat) : (numberL num n).length ≤ 20 := by
  have h1 := (vnt_len n).2
  have h2 := (vnt_len (num.toNat * 8)).2
  unfold numberL
  split
  · simp [putL]; omega
  · simp
theorem textL_le (num : Int) (s : ByteArray) : (textL num s).length ≤ 20 + s.size := by
  have h1 := (vnt_len s.size).2
  have h2 := (vnt_len (num.toNat * 8 + 2)).2
  unfold textL
  split
  · simp [putL]; omega
  · simp
theorem txtL_le (num : Int) (s : ByteArray) : (txtL num s).length ≤ 20 + s.size := by
  have := textL_le num s
  unfold txtL; split
  · simp
  · exact this
theorem nmbL_le (num : Int) (n : Nat) : (nmbL num n).length ≤ 20 := by
  have := numberL_le num n
  unfold nmbL; split
  · simp
  · exact this
theorem Rl.all_le (r : Rl) : r.all.length ≤ 40 + r.pre.size + r.clu.size := by
  have h1 := txtL_le 1 r.pre
  have h2 := txtL_le 2 r.clu
  rw [Rl.all_eq, List.length_append]; omega
theorem Ad.all_le (a : Ad) : a.all.length ≤ 60 + a.host.size := by
  have h1 := txtL_le 1 a.host
  have h2 := nmbL_le 2 a.port
  have h3 := nmbL_le 3 a.wt
  rw [Ad.all_eq, List.length_append, List.length_append]; omega

theorem takes_own {k : Int} {p : Pl} (hk : (hasOf k).2 = true) (hf : Fits p) (ho : OnlyOf k p) : takes (Pl.one (hasI k)) ((hasI k).flatMap (Pl.fds · p)) Pl.zero = some p := by
  rcases hasOf_cases hk with rfl | rfl | rfl | rfl | rfl
  · show takes (Pl.one [0, 1, 2]) (p.fds 0 ++ (p.fds 1 ++ (p.fds 2 ++ []))) Pl.zero = some p
    refine (takes_next hf (i := 0) (by decide) (by rfl) _).trans ?_
    refine (takes_next hf (i := 1) (by decide) (by rfl) _).trans ?_
    refine (takes_next hf (i := 2) (by decide) (by rfl) _).trans ?_
    have e3 : p.rules = [] := ho 3 (by decide) (by decide)
    have e4 : p.policy = 0 := ho 4 (by decide) (by decide)
    have e5 : p.secret = ⟨#[]⟩ := ho 5 (by decide) (by decide)
    have e6 : p.addrs = [] := ho 6 (by decide) (by decide)
    have e7 : p.key = ⟨#[]⟩ := ho 7 (by decide) (by decide)
    obtain ⟨a0, a1, a2, a3, a4, a5, a6, a7⟩ := p
    simp only at e3 e4 e5 e6 e7
    subst e3; subst e4; subst e5; subst e6; subst e7
    rfl
  · show takes (Pl.one [0, 3]) (p.fds 0 ++ (p.fds 3 ++ [])) Pl.zero = some p
    refine (takes_next hf (i := 0) (by decide) (by rfl) _).trans ?_
    refine (takes_next hf (i := 3) (by decide) (by rfl) _).trans ?_
    have e1 : p.port = 0 := ho 1 (by decide) (by decide)
    have e2 : p.route = ⟨#[]⟩ := ho 2 (by decide) (by decide)
    have e4 : p.policy = 0 := ho 4 (by decide) (by decide)
    have e5 : p.secret = ⟨#[]⟩ := ho 5 (by decide) (by decide)
    have e6 : p.addrs = [] := ho 6 (by decide) (by decide)
    have e7 : p.key = ⟨#[]⟩ := ho 7 (by decide) (by decide)
    obtain ⟨a0, a1, a2, a3, a4, a5, a6, a7⟩ := p
    simp only at e1 e2 e4 e5 e6 e7
    subst e1; subst e2; subst e4; subst e5; subst e6; subst e7
    rfl
  · show takes (Pl.one [0, 4, 5]) (p.fds 0 ++ (p.fds 4 ++ (p.fds 5 ++ []))) Pl.zero = some p
    refine (takes_next hf (i := 0) (by decide) (by rfl) _).trans ?_
    refine (takes_next hf (i := 4) (by decide) (by rfl) _).trans ?_
    refine (takes_next hf (i := 5) (by decide) (by rfl) _).trans ?_
    have e1 : p.port = 0 := ho 1 (by decide) (by decide)
    have e2 : p.route = ⟨#[]⟩ := ho 2 (by decide) (by decide)
    have e3 : p.rules = [] := ho 3 (by decide) (by decide)
    have e6 : p.addrs = [] := ho 6 (by decide) (by decide)
    have e7 : p.key = ⟨#[]⟩ := ho 7 (by decide) (by decide)
    obtain ⟨a0, a1, a2, a3, a4, a5, a6, a7⟩ := p
    simp only at e1 e2 e3 e6 e7
    subst e1; subst e2; subst e3; subst e6; subst e7
    rfl
  · show takes (Pl.one [0, 6]) (p.fds 0 ++ (p.fds 6 ++ [])) Pl.zero = some p
    refine (takes_next hf (i := 0) (by decide) (by rfl) _).trans ?_
    refine (takes_next hf (i := 6) (by decide) (by rfl) _).trans ?_
    have e1 : p.port = 0 := ho 1 (by decide) (by decide)
    have e2 : p.route = ⟨#[]⟩ := ho 2 (by decide) (by decide)
    have e3 : p.rules = [] := ho 3 (by decide) (by decide)
    have e4 : p.policy = 0 := ho 4 (by decide) (by decide)
    have e5 : p.secret = ⟨#[]⟩ := ho 5 (by decide) (by decide)
    have e7 : p.key = ⟨#[]⟩ := ho 7 (by decide) (by decide)
    obtain ⟨a0, a1, a2, a3, a4, a5, a6, a7⟩ := p
    simp only at e1 e2 e3 e4 e5 e7
    subst e1; subst e2; subst e3; subst e4; subst e5; subst e7
    rfl
  · show takes (Pl.one [0, 7]) (p.fds 0 ++ (p.fds 7 ++ [])) Pl.zero = some p
    refine (takes_next hf (i := 0) (by decide) (by rfl) _).trans ?_
    refine (takes_next hf (i := 7) (by decide) (by rfl) _).trans ?_
    have e1 : p.port = 0 := ho 1 (by decide) (by decide)
    have e2 : p.route = ⟨#[]⟩ := ho 2 (by decide) (by decide)
    have e3 : p.rules = [] := ho 3 (by decide) (by decide)
    have e4 : p.policy = 0 := ho 4 (by decide) (by decide)
    have e5 : p.secret = ⟨#[]⟩ := ho 5 (by decide) (by decide)
    have e6 : p.addrs = [] := ho 6 (by decide) (by decide)
    obtain ⟨a0, a1, a2, a3, a4, a5, a6, a7⟩ := p
    simp only at e1 e2 e3 e4 e5 e6
    subst e1; subst e2; subst e3; subst e4; subst e5; subst e6
    rfl
theorem getOf_own {k : Int} {p : Pl} (hk : (hasOf k).2 = true) (hf : Fits p) (ho : OnlyOf k p) : Pl.getOf k (p.puts (hasI k)) = some p := by
  rw [getOf_ps hk (Pl.puts_ps hf (hasI k)), takes_own hk hf ho]
theorem getOf_then {k : Int} {p : Pl} (hk : (hasOf k).2 = true) (hf : Fits p) (ho : OnlyOf k p) {l : List UInt8} {fs : List Fd} (h : Ps l fs) : Pl.getOf k (p.puts (hasI k) ++ l) = takes (Pl.one (hasI k)) fs p := by
  rw [getOf_ps hk ((Pl.puts_ps hf (hasI k)).app h), takes_app, takes_own hk hf ho]; rfl
theorem has_apart {k kind : Int} (hk : (hasOf k).2 = true) (hkind : (hasOf kind).2 = true) (hne : k ≠ kind) : hasI kind = 0 :: (hasI kind).tail ∧ 0 ∈ hasI k ∧ (∀ i ∈ (hasI kind).tail, i ∉ hasI k) ∧ (∀ i ∈ hasNotI k, 1 ≤ i ∧ i ≤ 7 ∧ i ∉ hasI k) ∧ ∀ i, i < 8 → 1 ≤ i → i ∉ hasNotI k → i ∉ hasI kind := by
  rcases hasOf_cases hk with rfl | rfl | rfl | rfl | rfl <;> rcases hasOf_cases hkind with rfl | rfl | rfl | rfl | rfl <;> first | exact absurd rfl hne | decide
theorem getOf_other {k kind : Int} {p : Pl} (hk : (hasOf k).2 = true) (hkind : (hasOf kind).2 = true) (hne : k ≠ kind) (hf : Fits p) : Pl.getOf k (p.puts (hasI kind)) = some (bareP p.name) := by
  obtain ⟨h1, h2, h3, _⟩ := has_apart hk hkind hne
  rw [getOf_ps hk (Pl.puts_ps hf (hasI kind)), h1, List.flatMap_cons]
  refine (takes_next hf (i := 0) h2 (by rfl) _).trans ?_
  refine takes_miss fun f hfm j hj e => ?_
  obtain ⟨i, hi, hfi⟩ := List.mem_flatMap.1 hfm
  have := Pl.fds_num f hfi
  obtain rfl : j = i := by omega
  exact h3 j hi hj

theorem put_bare {p : Pl} {i : Nat} (h : p.bareAt i) : p.put i = [] := by
  match i, h with
  | 0, h => have h : p.name = ⟨#[]⟩ := h; simp only [Pl.put, h]; rfl
  | 1, h => have h : p.port = 0 := h; simp only [Pl.put, h]; rfl
  | 2, h => have h : p.route = ⟨#[]⟩ := h; simp only [Pl.put, h]; rfl
  | 3, h => have h : p.rules = [] := h; simp only [Pl.put, h]; rfl
  | 4, h => have h : p.policy = 0 := h; simp only [Pl.put, h]; rfl
  | 5, h => have h : p.secret = ⟨#[]⟩ := h; simp only [Pl.put, h]; rfl
  | 6, h => have h : p.addrs = [] := h; simp only [Pl.put, h]; rfl
  | 7, h => have h : p.key = ⟨#[]⟩ := h; simp only [Pl.put, h]; rfl
  | i + 8, _ => rfl
theorem textL_ne {num : Int} {s : ByteArray} (h : numB num = true) : textL num s ≠ [] := by
  intro e
  have h1 := (vnt_len (num.toNat * 8 + 2)).1
  have h2 := congrArg List.length e
  simp [textL, h, putL] at h2
  rw [h2.1] at h1
  simp at h1
theorem txtL_bare {num : Int} {s : ByteArray} (hn : numB num = true) (h : txtL num s = []) : s = ⟨#[]⟩ := by
  unfold txtL at h
  split at h
  · rename_i h0; exact size_nil h0
  · exact absurd h (textL_ne hn)
theorem nmbL_bare {num : Int} {n : Nat} (hn : numB num = true) (h : nmbL num n = []) : n = 0 := by
  unfold nmbL at h
  split at h
  · assumption
  · exfalso
    have h1 := (vnt_len (num.toNat * 8)).1
    have h2 := congrArg List.length h
    simp [numberL, hn, putL] at h2
    rw [h2.1] at h1
    simp at h1
theorem bare_put {p : Pl} {i : Nat} (h : p.put i = []) : p.bareAt i := by
  match i, h with
  | 0, h => exact txtL_bare (num := 1) (by decide) h
  | 1, h => exact nmbL_bare (num := 2) (by decide) h
  | 2, h => exact txtL_bare (num := 3) (by decide) h
  | 3, h =>
    show p.rules = []
    cases hr : p.rules with
    | nil => rfl
    | cons r rs =>
      exfalso
      simp only [Pl.put, hr, List.flatMap_cons, List.append_eq_nil_iff] at h
      exact textL_ne (by decide) h.1
  | 4, h => exact nmbL_bare (num := 5) (by decide) h
  | 5, h => exact txtL_bare (num := 6) (by decide) h
  | 6, h =>
    show p.addrs = []
    cases hr : p.addrs with
    | nil => rfl
    | cons r rs =>
      exfalso
      simp only [Pl.put, hr, List.flatMap_cons, List.append_eq_nil_iff] at h
      exact textL_ne (by decide) h.1
  | 7, h => exact txtL_bare (num := 8) (by decide) h
  | i + 8, _ => exact trivial
theorem puts_nil_iff {p : Pl} {is : List Nat} : p.puts is = [] ↔ ∀ i ∈ is, p.put i = [] := by
  simp [Pl.puts, List.flatMap_eq_nil_iff]
theorem putOf_own {k : Int} {p : Pl} (hk : (hasOf k).2 = true) (hf : Fits p) (ho : OnlyOf k p) : p.putOf k = (⟨(p.puts (hasI k)).toArray⟩, true) := by
  refine plPut_right hk hf.rules hf.addrs (puts_nil_iff.2 fun i hi => put_bare (ho i ?_ ?_))
  · revert hi; rcases hasOf_cases hk with rfl | rfl | rfl | rfl | rfl <;> revert i <;> decide
  · revert hi; rcases hasOf_cases hk with rfl | rfl | rfl | rfl | rfl <;> revert i <;> decide
theorem toList_bare {s : ByteArray} (h : s.toList = []) : s = ⟨#[]⟩ := by
  rw [ByteArray.toList_eq] at h
  refine size_nil ?_
  have := congrArg List.length h
  simpa using this
theorem bare_all {p : Pl} (h : ∀ i, 1 ≤ i → p.bareAt i) : p = bareP p.name := by
  have e1 : p.port = 0 := h 1 (by decide)
  have e2 : p.route = ⟨#[]⟩ := h 2 (by decide)
  have e3 : p.rules = [] := h 3 (by decide)
  have e4 : p.policy = 0 := h 4 (by decide)
  have e5 : p.secret = ⟨#[]⟩ := h 5 (by decide)
  have e6 : p.addrs = [] := h 6 (by decide)
  have e7 : p.key = ⟨#[]⟩ := h 7 (by decide)
  obtain ⟨a0, a1, a2, a3, a4, a5, a6, a7⟩ := p
  simp only at e1 e2 e3 e4 e5 e6 e7
  subst e1; subst e2; subst e3; subst e4; subst e5; subst e6; subst e7
  rfl
end Go.Proofs.YtngceccpebdgmaaGreatDoor
namespace Go.Proofs.YtngceccpebdgmaaGreatDoor
theorem own_cases {k : Int} {p : Pl} (h : OwnOk k p) : k = 1 ∨ k = 2 ∨ k = 3 ∨ k = 4 ∨ k = 5 := by have := h.kind; omega
theorem own_has {k : Int} {p : Pl} (h : OwnOk k p) : (hasOf k).2 = true := by
  rcases own_cases h with rfl | rfl | rfl | rfl | rfl <;> rfl
theorem own_len {k : Int} {p : Pl} (h : OwnOk k p) : p.rules.length ≤ 3 ∧ p.addrs.length ≤ 3 := by
  have h1 := h.rules
  have h2 := h.addrs
  constructor
  · split at h1
    · omega
    · rw [h1]; simp
  · split at h2
    · omega
    · rw [h2]; simp
theorem own_sizes {k : Int} {p : Pl} (h : OwnOk k p) : p.name.size ≤ 3 ∧ p.port ≤ 65535 ∧ p.route.size ≤ 3 ∧ p.policy ≤ 2 ∧ p.secret.size ≤ 3 ∧ p.key.size ≤ 19 := by
  have h1 := h.name
  have h2 := h.port
  have h3 := h.route
  have h4 := h.policy
  have h5 := h.secret
  have h6 := h.key
  refine ⟨h1.2, ?_, ?_, ?_, ?_, ?_⟩
  · split at h2 <;> omega
  · split at h3 <;> omega
  · split at h4 <;> omega
  · split at h5 <;> omega
  · split at h6 <;> omega
theorem OwnOk.fits {k : Int} {p : Pl} (h : OwnOk k p) : Fits p := by
  obtain ⟨h1, h2, h3, h4, h5, h6⟩ := own_sizes h
  obtain ⟨h7, h8⟩ := own_len h
  exact ⟨by omega, by omega, by omega, fun r hr => by have := Rl.all_le r; have := h.rule r hr; omega, by omega, by omega,
    fun a ha => by have := Ad.all_le a; have := h.addr a ha; omega, by omega, by omega, by omega⟩
theorem OwnOk.ok {k : Int} {p : Pl} (h : OwnOk k p) : PlOk p :=
  ⟨h.fits.port, h.fits.policy, by have := (own_len h).1; omega, by have := (own_len h).2; omega, fun r hr => (h.fits.addr r hr).2⟩
theorem own_put_len {k : Int} {p : Pl} (h : OwnOk k p) (i : Nat) : (p.put i).length ≤ 260 := by
  obtain ⟨h1, h2, h3, h4, h5, h6⟩ := own_sizes h
  obtain ⟨h7, h8⟩ := own_len h
  match i with
  | 0 => have := txtL_le 1 p.name; show (txtL 1 p.name).length ≤ 260; omega
  | 1 => have := nmbL_le 2 p.port; show (nmbL 2 p.port).length ≤ 260; omega
  | 2 => have := txtL_le 3 p.route; show (txtL 3 p.route).length ≤ 260; omega
  | 3 =>
    have := flat_len (f := fun r : Rl => textL 4 ⟨r.all.toArray⟩) (B := 80) (xs := p.rules) fun r hr => by
      have := Rl.all_le r; have := h.rule r hr; have := textL_le 4 ⟨r.all.toArray⟩
      simp only [ByteArray.size, List.size_toArray] at this
      simp only [ByteArray.size] at *
      omega
    show (p.rules.flatMap fun r => textL 4 ⟨r.all.toArray⟩).length ≤ 260
    omega
  | 4 => have := nmbL_le 5 p.policy; show (nmbL 5 p.policy).length ≤ 260; omega
  | 5 => have := txtL_le 6 p.secret; show (txtL 6 p.secret).length ≤ 260; omega
  | 6 =>
    have := flat_len (f := fun r : Ad => textL 7 ⟨r.all.toArray⟩) (B := 84) (xs := p.addrs) fun r hr => by
      have := Ad.all_le r; have := h.addr r hr; have := textL_le 7 ⟨r.all.toArray⟩
      simp only [ByteArray.size, List.size_toArray] at this
      simp only [ByteArray.size] at *
      omega
    show (p.addrs.flatMap fun r => textL 7 ⟨r.all.toArray⟩).length ≤ 260
    omega
  | 7 => have := txtL_le 8 p.key; show (txtL 8 p.key).length ≤ 260; omega
  | i + 8 => simp [Pl.put]
theorem own_puts_len {k : Int} {p : Pl} (h : OwnOk k p) {is : List Nat} (hl : is.length ≤ 8) : (p.puts is).length ≤ 2080 := by
  have := flat_len (f := (Pl.put · p)) (B := 260) (xs := is) fun i _ => own_put_len h i
  show (is.flatMap (Pl.put · p)).length ≤ 2080
  omega

theorem OwnOk.only {k : Int} {p : Pl} (h : OwnOk k p) : OnlyOf k p := by
  intro i hi hn
  have h1 := h.port; have h2 := h.route; have h3 := h.rules; have h4 := h.policy; have h5 := h.secret; have h6 := h.addrs; have h7 := h.key
  rcases own_cases h with rfl | rfl | rfl | rfl | rfl
  all_goals
    match i, hi, hn with
    | 0, hi, _ => omega
    | 1, _, hn => first | exact absurd (by decide) hn | exact (by simpa using h1 : p.port = 0)
    | 2, _, hn => first | exact absurd (by decide) hn | exact size_nil (by simpa using h2)
    | 3, _, hn => first | exact absurd (by decide) hn | exact (by simpa using h3 : p.rules = [])
    | 4, _, hn => first | exact absurd (by decide) hn | exact (by simpa using h4 : p.policy = 0)
    | 5, _, hn => first | exact absurd (by decide) hn | exact size_nil (by simpa using h5)
    | 6, _, hn => first | exact absurd (by decide) hn | exact (by simpa using h6 : p.addrs = [])
    | 7, _, hn => first | exact absurd (by decide) hn | exact size_nil (by simpa using h7)
    | i + 8, _, _ => exact trivial

end Go.Proofs.YtngceccpebdgmaaGreatDoor
namespace Go.Proofs.YtngceccpebdgmaaGreatDoor
open Go.RowKit Go.Shelf

theorem isW_ok {W : ByteArray} (h : IsW W) : nmOk W = true := by
  obtain ⟨x, rfl⟩ := h
  unfold wordOf; split <;> kernel_rfl
theorem pre_ok0 : hpB ((⟨#[47]⟩ : ByteArray) ++ ⟨#[UInt8.ofNat (97 + 0)]⟩) ⟨#[47]⟩ = true := by kernel_rfl
theorem pre_ok1 : hpB ((⟨#[47]⟩ : ByteArray) ++ ⟨#[UInt8.ofNat (97 + 1)]⟩) ⟨#[47]⟩ = true := by kernel_rfl
theorem pre_ok2 : hpB ((⟨#[47]⟩ : ByteArray) ++ ⟨#[UInt8.ofNat (97 + 2)]⟩) ⟨#[47]⟩ = true := by kernel_rfl
theorem pre_ok (i : Nat) (hi : i < 3) : hpB ((⟨#[47]⟩ : ByteArray) ++ ⟨#[UInt8.ofNat (97 + i)]⟩) ⟨#[47]⟩ = true := by
  match i, hi with
  | 0, _ => exact pre_ok0
  | 1, _ => exact pre_ok1
  | 2, _ => exact pre_ok2
theorem pre_no10 : hpB ((⟨#[47]⟩ : ByteArray) ++ ⟨#[UInt8.ofNat (97 + 1)]⟩) ((⟨#[47]⟩ : ByteArray) ++ ⟨#[UInt8.ofNat (97 + 0)]⟩) = false := by kernel_rfl
theorem pre_no20 : hpB ((⟨#[47]⟩ : ByteArray) ++ ⟨#[UInt8.ofNat (97 + 2)]⟩) ((⟨#[47]⟩ : ByteArray) ++ ⟨#[UInt8.ofNat (97 + 0)]⟩) = false := by kernel_rfl
theorem pre_no21 : hpB ((⟨#[47]⟩ : ByteArray) ++ ⟨#[UInt8.ofNat (97 + 2)]⟩) ((⟨#[47]⟩ : ByteArray) ++ ⟨#[UInt8.ofNat (97 + 1)]⟩) = false := by kernel_rfl
theorem pre_apart (i j : Nat) (hi : i < 3) (hj : j < i) : hpB ((⟨#[47]⟩ : ByteArray) ++ ⟨#[UInt8.ofNat (97 + i)]⟩) ((⟨#[47]⟩ : ByteArray) ++ ⟨#[UInt8.ofNat (97 + j)]⟩) = false := by
  match i, j, hi, hj with
  | 1, 0, _, _ => exact pre_no10
  | 2, 0, _, _ => exact pre_no20
  | 2, 1, _, _ => exact pre_no21
theorem right_1 {p : Pl} (h : OwnOk 1 p) : (wPort p).or (wRoute p) = .no := by
  have h1 := h.port
  rw [if_pos rfl] at h1
  have a : portB (p.port : Int) = true := by unfold portB; simp; omega
  unfold wPort wRoute
  rw [a, isW_ok (h.routeW rfl)]
  rfl
theorem right_2 {p : Pl} (h : OwnOk 2 p) : (wAnyRule p).or (wEachRule p) = .no := by
  have h1 := h.rules
  rw [if_pos rfl] at h1
  have a : (p.rules.length == 0) = false := by simp; intro h; simp [h] at h1
  have b : firstI (rlBadAt p.rules) p.rules.length = none := firstI_none fun i hi => by
    obtain ⟨r, hr⟩ : ∃ r, p.rules[i]? = some r := ⟨_, List.getElem?_eq_getElem hi⟩
    obtain ⟨r1, r2⟩ := h.ruleW i r hr
    unfold rlBadAt
    rw [hr]
    show rlBad p.rules i r = false
    unfold rlBad
    rw [r1, pre_ok i (by omega), isW_ok r2]
    simp only [Bool.not_true, Bool.false_or]
    exact any_no fun j e hj he => by
      rw [(h.ruleW j e he).1]
      exact pre_apart i j (by omega) hj
  unfold wAnyRule wEachRule
  rw [a, b]
  rfl
theorem right_3 {p : Pl} (h : OwnOk 3 p) : (wPolicy p).or (wSecret p) = .no := by
  have h1 := h.policy
  rw [if_pos rfl] at h1
  have a : decide (2 < p.policy) = false := by simp; omega
  unfold wPolicy wSecret
  rw [a]
  rcases h.secretW with h2 | h2
  · rw [ck_empty h2]; rfl
  · rw [isW_ok h2]; cases p.secret.toList.isEmpty <;> rfl
theorem wsum_small : ∀ {l : List Ad}, (∀ a ∈ l, a.wt < 1000) → wsum l ≤ l.length * 1000
  | [], _ => Nat.zero_le _
  | x :: xs, h => by
    have h1 := h x (by simp)
    have h2 := wsum_small (l := xs) fun a ha => h a (List.mem_cons_of_mem _ ha)
    have h3 : min x.wt 4294967296 ≤ x.wt := Nat.min_le_left _ _
    simp only [wsum, List.length_cons]
    omega
theorem right_4 {p : Pl} (h : OwnOk 4 p) : (wEachAddr p).or (wWeight p) = .no := by
  have h1 := h.addrs
  rw [if_pos rfl] at h1
  have b : firstI (adBadAt p.addrs) p.addrs.length = none := firstI_none fun i hi => by
    obtain ⟨x, hx⟩ : ∃ x, p.addrs[i]? = some x := ⟨_, List.getElem?_eq_getElem hi⟩
    obtain ⟨x1, x2⟩ := h.addrW i x hx
    unfold adBadAt
    rw [hx]
    show adBad p.addrs i x = false
    have c : portB (x.port : Int) = true := by rw [x1]; unfold portB; simp; omega
    have d : (fIdx p.addrs x.host x.port p.addrs.length).getD i = i := by
      cases hf : fIdx p.addrs x.host x.port p.addrs.length with
      | none => rfl
      | some j =>
        obtain ⟨hj, hs⟩ := firstI_lt hf
        obtain ⟨y, hy⟩ : ∃ y, p.addrs[j]? = some y := ⟨_, List.getElem?_eq_getElem hj⟩
        rw [show sameAtI p.addrs x.host x.port j = sameSp y x.host x.port by unfold sameAtI; rw [hy]] at hs
        have := (sameSp_iff.1 hs).2
        have := (h.addrW j y hy).1
        show j = i
        omega
    unfold adBad
    rw [isW_ok x2, c, d]
    simp
  have c : decide (4294967295 < wsum p.addrs) = false := by
    have := wsum_small (l := p.addrs) fun a ha => (h.addr a ha).2.2.2.2
    exact decide_eq_false (by omega)
  unfold wEachAddr wWeight
  rw [b, c]
  rfl
theorem right_5 {p : Pl} (h : OwnOk 5 p) : wKey p = .no := by
  have h1 := h.key
  rw [if_pos rfl] at h1
  have a : decide (p.key.size < 16) = false := by simp; omega
  have b : decide (64 < p.key.size) = false := by simp; omega
  unfold wKey
  rw [a, b]
  rfl
theorem beq_name (x : ByteArray) : (x.toList == x.toList) = true := by simp
/-- For its own key nothing is wrong. -/
theorem right_own {k : Int} {p : Pl} (h : OwnOk k p) (S : ByteArray) (hS : S.size ≤ 1024) (hG : Pl.getOf k S.data.toList = some p) (b : Addr) (w : World) (hg : Gv b w) :
    Calls Tryz.prog 36 #[kyV k p.name, .string S] w fun e w' => e = .returned Wr.no.v ∧ Below w.heap.size w w' := by
  rcases own_cases h with rfl | rfl | rfl | rfl | rfl
  · exact (wrong_1 p.name S p b w hg hS hG (beq_name _)).mono fun e w' q => ⟨by rw [q.1, right_1 h], q.2⟩
  · exact (wrong_2 p.name S p b w hg hS hG (beq_name _)).mono fun e w' q => ⟨by rw [q.1, right_2 h], q.2⟩
  · exact (wrong_3 p.name S p b w hg hS hG (beq_name _)).mono fun e w' q => ⟨by rw [q.1, right_3 h], q.2⟩
  · exact (wrong_4 p.name S p b w hg hS hG (beq_name _) fun x hx => ⟨by have := h.addr x hx; unfold maxLen; omega, by have := h.addr x hx; omega, by have := h.addr x hx; omega⟩).mono fun e w' q => ⟨by rw [q.1, right_4 h], q.2⟩
  · exact (wrong_5 p.name S p b w hg hS hG (beq_name _)).mono fun e w' q => ⟨by rw [q.1, right_5 h], q.2⟩
/-- What another type gets of it. -/
theorem other_get {k u : Int} {p : Pl} (h : OwnOk k p) (hu : (hasOf u).2 = true) : ∃ q, Pl.getOf u (p.puts (hasI k)) = some q ∧ q.name = p.name := by
  by_cases he : u = k
  · subst he; exact ⟨p, getOf_own (own_has h) h.fits h.only, rfl⟩
  · exact ⟨bareP p.name, getOf_other hu (own_has h) he h.fits, rfl⟩
theorem hasI_3 (k : Int) : (hasI k).length ≤ 3 := by
  unfold hasI
  repeat' split
  all_goals decide
theorem own_S {k : Int} {p : Pl} (h : OwnOk k p) : (p.puts (hasI k)).length ≤ 1024 := by
  have h1 := flat_len (f := (Pl.put · p)) (B := 260) (xs := hasI k) fun i _ => own_put_len h i
  have h2 := hasI_3 k
  show ((hasI k).flatMap (Pl.put · p)).length ≤ 1024
  omega
theorem hasNotI_len8 (k : Int) : (hasNotI k).length ≤ 8 := by
  unfold hasNotI
  repeat' split
  all_goals decide
theorem has_no {u : Int} (h : ¬ (1 ≤ u ∧ u ≤ 5)) : (hasOf u).2 = false := by
  cases hh : (hasOf u).2 with
  | false => rfl
  | true => rcases hasOf_cases hh with rfl | rfl | rfl | rfl | rfl <;> exact absurd ⟨by decide, by decide⟩ h
end Go.Proofs.YtngceccpebdgmaaGreatDoor
namespace Go.Proofs.YtngceccpebdgmaaGreatDoor
open Go.RowKit Go.ChangeShapes Go.WideShapes

theorem wrap5 (kd : Int) : (IntKind.u64.wrap kd).tmod 5 = 0 ∨ (IntKind.u64.wrap kd).tmod 5 = 1 ∨ (IntKind.u64.wrap kd).tmod 5 = 2 ∨ (IntKind.u64.wrap kd).tmod 5 = 3 ∨ (IntKind.u64.wrap kd).tmod 5 = 4 := by
  have h : 0 ≤ IntKind.u64.wrap kd := by
    simp only [IntKind.wrap, IntKind.signed, IntKind.bits]
    exact Int.emod_nonneg _ (by decide)
  rw [Int.tmod_eq_emod_of_nonneg h]
  omega

theorem made_any (s0 s2 s5 s7 : ByteArray) (n1 n4 nn mm : Nat) (a3 a6 : Option Addr) (l3 c3 l6 c6 : Nat) (kd : Int) (w : World) (hnn : nn < 256) (hmm : mm < 256) (hn1 : n1 < 2 ^ 64) (hn4 : n4 < 2 ^ 64) (hs7 : s7.size ≤ 140737488355328) :
    ∃ k : Int, Calls Tryz.prog 19 #[.agg #[.string s0, .int .u64 (n1 : Int), .string s2, .slice a3 l3 c3, .int .u64 (n4 : Int), .string s5, .slice a6 l6 c6, .string s7, .int .i64 kd, .bool true, .int .u8 (nn : Int), .int .u8 (mm : Int)]] w (MadePost k w) := by
  rcases wrap5 kd with h | h | h | h | h
  · exact ⟨1, made_0 s0 s2 s5 s7 n1 n4 nn mm a3 a6 l3 c3 l6 c6 kd w hnn hmm hn1 hn4 hs7 h⟩
  · exact ⟨2, made_1 s0 s2 s5 s7 n1 n4 nn mm a3 a6 l3 c3 l6 c6 kd w hnn hmm hn1 hn4 hs7 h⟩
  · exact ⟨3, made_2 s0 s2 s5 s7 n1 n4 nn mm a3 a6 l3 c3 l6 c6 kd w hnn hmm hn1 hn4 hs7 h⟩
  · exact ⟨4, made_3 s0 s2 s5 s7 n1 n4 nn mm a3 a6 l3 c3 l6 c6 kd w hnn hmm hn1 hn4 hs7 h⟩
  · exact ⟨5, made_4 s0 s2 s5 s7 n1 n4 nn mm a3 a6 l3 c3 l6 c6 kd w hnn hmm hn1 hn4 hs7 h⟩

theorem arr12 {a : Array Value} (h : a.size = 12) : ∃ v0 v1 v2 v3 v4 v5 v6 v7 v8 v9 v10 v11, a = #[v0, v1, v2, v3, v4, v5, v6, v7, v8, v9, v10, v11] := by
  obtain ⟨l⟩ := a
  match l, h with
  | [v0, v1, v2, v3, v4, v5, v6, v7, v8, v9, v10, v11], _ => exact ⟨v0, v1, v2, v3, v4, v5, v6, v7, v8, v9, v10, v11, rfl⟩

theorem slice_form {H : Type} {enc : TypeId × Value → H} {P : Program} {w : World} {base : Nat} {spare : Nat → Bool} {held : Bool} {t e : TypeId} {fuel : Nat} {v : Value} {x : DataW H × List MemPlace} (ht : P.underlying t = some (.slice e)) (h : DataW.trod enc P w base spare held fuel t [v] = some x) :
    ∃ a len cap, v = .slice a len cap := by
  rcases Go.Deep.open_slice ht h with ⟨hcs, _⟩ | ⟨a', len', cap', m, n, D, Pl, hcs, _⟩
  · exact ⟨none, 0, 0, List.singleton_inj.1 hcs⟩
  · exact ⟨some a', len', cap', List.singleton_inj.1 hcs⟩

set_option maxRecDepth 100000 in
theorem open_made {H : Type} {enc : TypeId × Value → H} {W : World} {base : Nat} {v : Value} {d : DataW H} {ps : List MemPlace}
    (hv : Value.okWide Tryz.prog W .any base 38 v) (h : DataW.Trod enc Tryz.prog W 0 (fun _ => true) true 38 v d ps) :
    ∃ (s0 s2 s5 s7 : ByteArray) (n1 n4 nn mm : Nat) (a3 a6 : Option Addr) (l3 c3 l6 c6 : Nat) (kd : Int) (own : Bool), v = .agg #[.string s0, .int .u64 (n1 : Int), .string s2, .slice a3 l3 c3, .int .u64 (n4 : Int), .string s5, .slice a6 l6 c6, .string s7, .int .i64 kd, .bool own, .int .u8 (nn : Int), .int .u8 (mm : Int)] ∧
      nn < 256 ∧ mm < 256 ∧ n1 < 2 ^ 64 ∧ n4 < 2 ^ 64 ∧ s7.size ≤ maxLen ∧ ∃ (y0 y1 y2 y3 y4 y5 y6 z1 z2 z3 z4 : DataW H), d = .agg [.agg [y0, y1, y2, y3, y4, y5, y6, .lit (.string s7.data.toList)], z1, z2, z3, z4] := by
  have c28 : Tryz.prog.cellsOf 38 = 12 := by kernel_rfl
  have c26 : Tryz.prog.cellsOf 36 = 8 := by kernel_rfl
  have ci : Tryz.prog.cellsOf 3 = 1 := by kernel_rfl
  have cu : Tryz.prog.cellsOf 24 = 1 := by kernel_rfl
  have c8 : Tryz.prog.cellsOf 5 = 1 := by kernel_rfl
  have cb : Tryz.prog.cellsOf 4 = 1 := by kernel_rfl
  have cS : Tryz.prog.cellsOf 9 = 1 := by kernel_rfl
  have cR : Tryz.prog.cellsOf 33 = 1 := by kernel_rfl
  have cA : Tryz.prog.cellsOf 34 = 1 := by kernel_rfl
  obtain ⟨cs, rfl, hsz⟩ := okWide_struct Tryz.underlying38 hv
  obtain ⟨v0, v1, v2, v3, v4, v5, v6, v7, v8, v9, v10, v11, rfl⟩ := arr12 (hsz.trans c28)
  obtain ⟨fuel, hf⟩ := h
  obtain ⟨xs, n, _, hx, _, hxl, hfs⟩ := DataW.trod_struct Tryz.underlying38 hf
  match xs, hxl with
  | [x0, x1, x2, x3, x4], _ =>
  have f0 := hfs 0 _ rfl
  have f1 := hfs 1 _ rfl
  have f2 := hfs 2 _ rfl
  have f3 := hfs 3 _ rfl
  have f4 := hfs 4 _ rfl
  simp only [Value.cells, List.getElem?_cons_zero, List.getElem?_cons_succ] at f0 f1 f2 f3 f4
  obtain ⟨k8, e8, rfl, hk8⟩ := DataW.trod_int Tryz.underlying3 f1
  obtain ⟨k9, e9, rfl⟩ := DataW.trod_bool Tryz.underlying4 f2
  obtain ⟨k10, e10, rfl, hk10⟩ := DataW.trod_int Tryz.underlying5 f3
  obtain ⟨k11, e11, rfl, hk11⟩ := DataW.trod_int Tryz.underlying5 f4
  obtain ⟨ys, m, _, hy, _, hyl, hgs⟩ := DataW.trod_struct Tryz.underlying36 f0
  match ys, hyl with
  | [y0, y1, y2, y3, y4, y5, y6, y7], _ =>
  have g0 := hgs 0 _ rfl
  have g1 := hgs 1 _ rfl
  have g2 := hgs 2 _ rfl
  have g3 := hgs 3 _ rfl
  have g4 := hgs 4 _ rfl
  have g5 := hgs 5 _ rfl
  have g6 := hgs 6 _ rfl
  have g7 := hgs 7 _ rfl
  simp only [List.getElem?_cons_zero, List.getElem?_cons_succ] at g0 g1 g2 g3 g4 g5 g6 g7
  obtain ⟨k0, e0, rfl, hk0⟩ := DataW.trod_string Tryz.underlying9 g0
  obtain ⟨k1, e1, rfl, hk1⟩ := DataW.trod_int Tryz.underlying24 g1
  obtain ⟨k2, e2, rfl, hk2⟩ := DataW.trod_string Tryz.underlying9 g2
  obtain ⟨a3, l3, c3, e3⟩ := slice_form Tryz.underlying33 g3
  obtain ⟨k4, e4, rfl, hk4⟩ := DataW.trod_int Tryz.underlying24 g4
  obtain ⟨k5, e5, rfl, hk5⟩ := DataW.trod_string Tryz.underlying9 g5
  obtain ⟨a6, l6, c6, e6⟩ := slice_form Tryz.underlying34 g6
  obtain ⟨k7, e7, rfl, hk7⟩ := DataW.trod_string Tryz.underlying9 g7
  obtain rfl := List.singleton_inj.1 e0
  obtain rfl := List.singleton_inj.1 e1
  obtain rfl := List.singleton_inj.1 e2
  obtain rfl := e3
  obtain rfl := List.singleton_inj.1 e4
  obtain rfl := List.singleton_inj.1 e5
  obtain rfl := e6
  obtain rfl := List.singleton_inj.1 e7
  obtain rfl := List.singleton_inj.1 e8
  obtain rfl := List.singleton_inj.1 e9
  obtain rfl := List.singleton_inj.1 e10
  obtain rfl := List.singleton_inj.1 e11
  have b1 := bounds_u64 hk1
  have b4 := bounds_u64 hk4
  have b10 := bounds_u8 hk10
  have b11 := bounds_u8 hk11
  obtain ⟨n1, rfl⟩ := Int.eq_ofNat_of_zero_le b1.1
  obtain ⟨n4, rfl⟩ := Int.eq_ofNat_of_zero_le b4.1
  obtain ⟨n10, rfl⟩ := Int.eq_ofNat_of_zero_le b10.1
  obtain ⟨n11, rfl⟩ := Int.eq_ofNat_of_zero_le b11.1
  have hd := congrArg Prod.fst hx
  have hyd := congrArg Prod.fst hy
  subst hy
  exact ⟨k0, k2, k5, k7, n1, n4, n10, n11, a3, a6, l3, c3, l6, c6, k8, k9, rfl, by omega, by omega, by omega, by omega, hk7, _, _, _, _, _, _, _, _, _, _, _, hd⟩
end Go.Proofs.YtngceccpebdgmaaGreatDoor
namespace Go.Proofs.YtngceccpebdgmaaGreatDoor
open Go.RowKit Go.ChangeShapes Go.WideShapes

theorem ck_arr2 {a : Array Value} (h : a.size = 2) : ∃ v0 v1, a = #[v0, v1] := by
  obtain ⟨l⟩ := a
  match l, h with
  | [v0, v1], _ => exact ⟨v0, v1, rfl⟩
theorem ck_arr5 {a : Array Value} (h : a.size = 5) : ∃ v0 v1 v2 v3 v4, a = #[v0, v1, v2, v3, v4] := by
  obtain ⟨l⟩ := a
  match l, h with
  | [v0, v1, v2, v3, v4], _ => exact ⟨v0, v1, v2, v3, v4, rfl⟩

set_option maxRecDepth 100000 in
theorem open_key {H : Type} {enc : TypeId × Value → H} {W : World} {base : Nat} {v : Value} {d : DataW H} {ps : List MemPlace}
    (hv : Value.okWide Tryz.prog W .any base 23 v) (h : DataW.Trod enc Tryz.prog W 0 (fun _ => true) true 23 v d ps) :
    ∃ (t : Int) (x : ByteArray), v = .agg #[.int .i64 t, .string x] ∧ x.size ≤ maxLen ∧ ∃ y0, d = .agg [y0, .lit (.string x.data.toList)] := by
  have c28 : Tryz.prog.cellsOf 23 = 2 := by kernel_rfl
  have ci : Tryz.prog.cellsOf 3 = 1 := by kernel_rfl
  have cS : Tryz.prog.cellsOf 9 = 1 := by kernel_rfl
  obtain ⟨cs, rfl, hsz⟩ := okWide_struct Tryz.underlying23 hv
  obtain ⟨v0, v1, rfl⟩ := ck_arr2 (hsz.trans c28)
  obtain ⟨fuel, hf⟩ := h
  obtain ⟨xs, n, _, hx, _, hxl, hfs⟩ := DataW.trod_struct Tryz.underlying23 hf
  match xs, hxl with
  | [x0, x1], _ =>
  have f0 := hfs 0 _ rfl
  have f1 := hfs 1 _ rfl
  simp only [Value.cells, List.getElem?_cons_zero, List.getElem?_cons_succ] at f0 f1
  obtain ⟨k0, e0, rfl, hk0⟩ := DataW.trod_int Tryz.underlying3 f0
  obtain ⟨k1, e1, rfl, hk1⟩ := DataW.trod_string Tryz.underlying9 f1
  obtain rfl := List.singleton_inj.1 e0
  obtain rfl := List.singleton_inj.1 e1
  have hd := congrArg Prod.fst hx
  exact ⟨k0, k1, rfl, hk1, _, hd⟩

set_option maxRecDepth 100000 in
theorem open_res {H : Type} {enc : TypeId × Value → H} {W : World} {base : Nat} {v : Value} {d : DataW H} {ps : List MemPlace}
    (hv : Value.okWide Tryz.prog W .any base 26 v) (h : DataW.Trod enc Tryz.prog W 0 (fun _ => true) true 26 v d ps) :
    ∃ (t : Int) (x : ByteArray) (q : Nat) (g : Bool) (s : ByteArray), v = .agg #[.int .i64 t, .string x, .int .u64 (q : Int), .bool g, .string s] ∧ x.size ≤ maxLen ∧ q < 2 ^ 64 ∧ s.size ≤ maxLen ∧ ∃ y0 y1 y2, d = .agg [.agg [y0, .lit (.string x.data.toList)], y1, y2, .lit (.string s.data.toList)] := by
  have c28 : Tryz.prog.cellsOf 26 = 5 := by kernel_rfl
  have c26 : Tryz.prog.cellsOf 23 = 2 := by kernel_rfl
  have ci : Tryz.prog.cellsOf 3 = 1 := by kernel_rfl
  have cu : Tryz.prog.cellsOf 24 = 1 := by kernel_rfl
  have cb : Tryz.prog.cellsOf 4 = 1 := by kernel_rfl
  have cS : Tryz.prog.cellsOf 9 = 1 := by kernel_rfl
  obtain ⟨cs, rfl, hsz⟩ := okWide_struct Tryz.underlying26 hv
  obtain ⟨v0, v1, v2, v3, v4, rfl⟩ := ck_arr5 (hsz.trans c28)
  obtain ⟨fuel, hf⟩ := h
  obtain ⟨xs, n, _, hx, _, hxl, hfs⟩ := DataW.trod_struct Tryz.underlying26 hf
  match xs, hxl with
  | [x0, x1, x2, x3], _ =>
  have f0 := hfs 0 _ rfl
  have f1 := hfs 1 _ rfl
  have f2 := hfs 2 _ rfl
  have f3 := hfs 3 _ rfl
  simp only [Value.cells, List.getElem?_cons_zero, List.getElem?_cons_succ] at f0 f1 f2 f3
  obtain ⟨k1, e1, rfl, hk1⟩ := DataW.trod_int Tryz.underlying24 f1
  obtain ⟨k2, e2, rfl⟩ := DataW.trod_bool Tryz.underlying4 f2
  obtain ⟨k3, e3, rfl, hk3⟩ := DataW.trod_string Tryz.underlying9 f3
  obtain ⟨ys, m, _, hy, _, hyl, hgs⟩ := DataW.trod_struct Tryz.underlying23 f0
  match ys, hyl with
  | [y0, y1], _ =>
  have g0 := hgs 0 _ rfl
  have g1 := hgs 1 _ rfl
  simp only [List.getElem?_cons_zero, List.getElem?_cons_succ] at g0 g1
  obtain ⟨j0, d0, rfl, hj0⟩ := DataW.trod_int Tryz.underlying3 g0
  obtain ⟨j1, d1, rfl, hj1⟩ := DataW.trod_string Tryz.underlying9 g1
  obtain rfl := List.singleton_inj.1 d0
  obtain rfl := List.singleton_inj.1 d1
  obtain rfl := List.singleton_inj.1 e1
  obtain rfl := List.singleton_inj.1 e2
  obtain rfl := List.singleton_inj.1 e3
  have b1 := bounds_u64 hk1
  obtain ⟨n1, rfl⟩ := Int.eq_ofNat_of_zero_le b1.1
  have hd := congrArg Prod.fst hx
  have hyd := congrArg Prod.fst hy
  subst hy
  exact ⟨j0, j1, n1, k2, k3, rfl, hj1, by omega, hk3, _, _, _, hd⟩
end Go.Proofs.YtngceccpebdgmaaGreatDoor
namespace Go.Proofs.YtngceccpebdgmaaGreatDoor.ckRight
open Go.RowKit Go.Shelf

/-- Of another key something is wrong. -/
theorem body_other {k : Int} {p : Pl} (hok : OwnOk k p) (S : ByteArray) (hS : S.size ≤ 1024) (hSp : S.data.toList = p.puts (hasI k)) (u : Int) (x : ByteArray) (h : (x.toList == p.name.toList) = false ∨ ¬ (1 ≤ u ∧ u ≤ 5)) :
    ∃ X : ByteArray, X.toList.isEmpty = false ∧ ∀ (b : Addr) (w : World), Gv b w → Ge w → Calls Tryz.prog 22 #[kyV u x, .string S] w fun e w' => e = .returned (.string X) ∧ Below w.heap.size w w' := by
  by_cases hu : 1 ≤ u ∧ u ≤ 5
  · have hn : (x.toList == p.name.toList) = false := by
      rcases h with h | h
      · exact h
      · exact absurd hu h
    have hh : (hasOf u).2 = true := by
      have hc : u = 1 ∨ u = 2 ∨ u = 3 ∨ u = 4 ∨ u = 5 := by omega
      rcases hc with rfl | rfl | rfl | rfl | rfl <;> rfl
    obtain ⟨q, hq, hqn⟩ := other_get hok hh
    rw [← hSp] at hq
    refine ⟨⟨#[110, 97, 109, 101]⟩, by kernel_rfl, fun b w hg hge => body_word u x S _ b w hg hge fun w hg => firstWrong_name u x S q b w hg hS hq ?_⟩
    rw [hqn, Bool.beq_comm]
    exact hn
  · exact ⟨⟨#[102, 111, 114, 109]⟩, by kernel_rfl, fun b w hg hge => body_word u x S _ b w hg hge fun w hg => firstWrong_form u x S b w hg hS (getOf_no (has_no hu))⟩
set_option maxRecDepth 100000 in
set_option maxHeartbeats 8000000 in
theorem walk (s0 s2 s5 s7 : ByteArray) (n1 n4 nn mm : Nat) (a3 a6 : Option Addr) (l3 c3 l6 c6 : Nat) (kd : Int) (own : Bool) (u : Int) (x : ByteArray) (b : Addr) (w : World) (hg : Gv b w) (hge : Ge w) (hnn : nn < 256) (hmm : mm < 256) (hn1 : n1 < 2 ^ 64) (hn4 : n4 < 2 ^ 64) (hs7 : s7.size ≤ 140737488355328) :
    Calls Tryz.prog 5 #[.agg #[.string s0, .int .u64 (n1 : Int), .string s2, .slice a3 l3 c3, .int .u64 (n4 : Int), .string s5, .slice a6 l6 c6, .string s7, .int .i64 kd, .bool own, .int .u8 (nn : Int), .int .u8 (mm : Int)], kyV u x] w fun e w' => e = .returned (.bool true) ∧ Below w.heap.size w w' := by
  have up := (below_alloc w (.cells #[.string s0, .int .u64 (n1 : Int), .string s2, .slice a3 l3 c3, .int .u64 (n4 : Int), .string s5, .slice a6 l6 c6, .string s7, .int .i64 kd, .bool own, .int .u8 (nn : Int), .int .u8 (mm : Int)] 38)).alloc (by simp) (.cells #[.int .i64 u, .string x] 23)
  have k0 : ((w.alloc (.cells #[.string s0, .int .u64 (n1 : Int), .string s2, .slice a3 l3 c3, .int .u64 (n4 : Int), .string s5, .slice a6 l6 c6, .string s7, .int .i64 kd, .bool own, .int .u8 (nn : Int), .int .u8 (mm : Int)] 38)).alloc (.cells #[.int .i64 u, .string x] 23)).heap[w.heap.size]? = some (.cells #[.string s0, .int .u64 (n1 : Int), .string s2, .slice a3 l3 c3, .int .u64 (n4 : Int), .string s5, .slice a6 l6 c6, .string s7, .int .i64 kd, .bool own, .int .u8 (nn : Int), .int .u8 (mm : Int)] 38) := (heap_alloc_old _ _ (by simp)).trans (World.alloc_heap_new w (.cells #[.string s0, .int .u64 (n1 : Int), .string s2, .slice a3 l3 c3, .int .u64 (n4 : Int), .string s5, .slice a6 l6 c6, .string s7, .int .i64 kd, .bool own, .int .u8 (nn : Int), .int .u8 (mm : Int)] 38))
  have k1 : ((w.alloc (.cells #[.string s0, .int .u64 (n1 : Int), .string s2, .slice a3 l3 c3, .int .u64 (n4 : Int), .string s5, .slice a6 l6 c6, .string s7, .int .i64 kd, .bool own, .int .u8 (nn : Int), .int .u8 (mm : Int)] 38)).alloc (.cells #[.int .i64 u, .string x] 23)).heap[w.heap.size + 1]? = some (.cells #[.int .i64 u, .string x] 23) := by
    have := World.alloc_heap_new (w.alloc (.cells #[.string s0, .int .u64 (n1 : Int), .string s2, .slice a3 l3 c3, .int .u64 (n4 : Int), .string s5, .slice a6 l6 c6, .string s7, .int .i64 kd, .bool own, .int .u8 (nn : Int), .int .u8 (mm : Int)] 38)) (.cells #[.int .i64 u, .string x] 23)
    rw [World.size_alloc] at this
    exact this
  have ks : ((w.alloc (.cells #[.string s0, .int .u64 (n1 : Int), .string s2, .slice a3 l3 c3, .int .u64 (n4 : Int), .string s5, .slice a6 l6 c6, .string s7, .int .i64 kd, .bool own, .int .u8 (nn : Int), .int .u8 (mm : Int)] 38)).alloc (.cells #[.int .i64 u, .string x] 23)).heap.size = w.heap.size + 1 + 1 := by simp
  have HGW := Lib.hid hg
  have HEW := Lib.hid hge
  have HUP := Lib.hid up
  have HK0 := Lib.hid k0
  have HK1 := Lib.hid k1
  have HKS := Lib.hid ks
  have HM := Lib.hid (And.intro hnn (And.intro hmm (And.intro hn1 (And.intro hn4 hs7))))
  clear hg hge up k0 k1 ks hnn hmm hn1 hn4 hs7
  go_enter Tryz.func5, Tryz.ntmps5
  go_wp2_with fail
  refine (ck_examples b _ (HGW.out.below HUP.out) (HEW.out.below HUP.out)).mono ?_
  rintro e w1 ⟨rfl, hb1⟩
  have hz := HKS.out
  have pb := (hb1.block w.heap.size (by omega)).trans HK0.out
  have pk := (hb1.block (w.heap.size + 1) (by omega)).trans HK1.out
  have hlt : w.heap.size + 1 < w1.heap.size := by have := hb1.size; omega
  have HB1 := Lib.hid (HUP.out.trans (hb1.mono (by omega)))
  have HPK := Lib.hid pk
  clear hb1 hz pk
  have t0 : w1.cell? ⟨w.heap.size, 0, none⟩ = some (.string s0) := (Lib.cell_of_heap pb 0).trans rfl
  have t1 : w1.cell? ⟨w.heap.size, 1, none⟩ = some (.int .u64 (n1 : Int)) := (Lib.cell_of_heap pb 1).trans rfl
  have t2 : w1.cell? ⟨w.heap.size, 2, none⟩ = some (.string s2) := (Lib.cell_of_heap pb 2).trans rfl
  have t3 : w1.cell? ⟨w.heap.size, 3, none⟩ = some (.slice a3 l3 c3) := (Lib.cell_of_heap pb 3).trans rfl
  have t4 : w1.cell? ⟨w.heap.size, 4, none⟩ = some (.int .u64 (n4 : Int)) := (Lib.cell_of_heap pb 4).trans rfl
  have t5 : w1.cell? ⟨w.heap.size, 5, none⟩ = some (.string s5) := (Lib.cell_of_heap pb 5).trans rfl
  have t6 : w1.cell? ⟨w.heap.size, 6, none⟩ = some (.slice a6 l6 c6) := (Lib.cell_of_heap pb 6).trans rfl
  have t7 : w1.cell? ⟨w.heap.size, 7, none⟩ = some (.string s7) := (Lib.cell_of_heap pb 7).trans rfl
  have t8 : w1.cell? ⟨w.heap.size, 8, none⟩ = some (.int .i64 kd) := (Lib.cell_of_heap pb 8).trans rfl
  have t9 : w1.cell? ⟨w.heap.size, 9, none⟩ = some (.bool own) := (Lib.cell_of_heap pb 9).trans rfl
  have t10 : w1.cell? ⟨w.heap.size, 10, none⟩ = some (.int .u8 (nn : Int)) := (Lib.cell_of_heap pb 10).trans rfl
  have t11 : w1.cell? ⟨w.heap.size, 11, none⟩ = some (.int .u8 (mm : Int)) := (Lib.cell_of_heap pb 11).trans rfl
  have tf9 := Lib.frozen_of_heap pb 9
  clear pb
  go_wp2_with fail
  obtain ⟨kk, hm⟩ := made_any s0 s2 s5 s7 n1 n4 nn mm a3 a6 l3 c3 l6 c6 kd (w1.setCell ⟨w.heap.size, 9, none⟩ (.bool true)) HM.out.1 HM.out.2.1 HM.out.2.2.1 HM.out.2.2.2.1 HM.out.2.2.2.2
  refine hm.mono ?_
  rintro e w2 ⟨p, r3, d3, r6, d6, rfl, hok, hr3, hr6, hb2⟩
  have pk2 : w2.heap[w.heap.size + 1]? = some (.cells #[.int .i64 u, .string x] 23) := (hb2.block (w.heap.size + 1) (by simpa using hlt)).trans ((heap_setCell_other _ _ _ _ (by simp)).trans HPK.out)
  have HB2 := Lib.hid ((HB1.out.setCell (p := ⟨w.heap.size, 9, none⟩) (Nat.le_refl _) (.bool true)).trans (hb2.mono (by simp; omega)))
  have hlt2 : w.heap.size + 1 < w2.heap.size := by have := hb2.size; simp at this; omega
  have HOK := Lib.hid hok
  have HR3 := Lib.hid hr3
  have HR6 := Lib.hid hr6
  have HPK2 := Lib.hid pk2
  clear hm hb2 hok hr3 hr6 pk2 t0 t1 t2 t3 t4 t5 t6 t7 t8 t9 t10 t11 tf9 hlt
  have HGW2 := Lib.hid (HGW.out.below HB2.out)
  have k0 := World.alloc_heap_new w2 (.cells #[.string p.name, .int .u64 (p.port : Int), .string p.route, .slice r3 p.rules.length d3, .int .u64 (p.policy : Int), .string p.secret, .slice r6 p.addrs.length d6, .string p.key] 36)
  have up2 := below_f w2 (.cells #[.string p.name, .int .u64 (p.port : Int), .string p.route, .slice r3 p.rules.length d3, .int .u64 (p.policy : Int), .string p.secret, .slice r6 p.addrs.length d6, .string p.key] 36)
  go_wp2_with fail
  obtain ⟨w3, hw3⟩ : ∃ w3, w2.alloc (.cells #[.string p.name, .int .u64 (p.port : Int), .string p.route, .slice r3 p.rules.length d3, .int .u64 (p.policy : Int), .string p.secret, .slice r6 p.addrs.length d6, .string p.key] 36) = w3 := ⟨_, rfl⟩
  have hz3 : w3.heap.size = w2.heap.size + 1 := by rw [← hw3, World.size_alloc]
  rw [hw3]
  rw [hw3] at k0 up2
  have HB3 := Lib.hid (HB2.out.trans (up2.mono HB2.out.size))
  have HG3 := Lib.hid (HGW2.out.below up2)
  have P3 := Lib.hid (HR3.out.below up2)
  have P6 := Lib.hid (HR6.out.below up2)
  have HPK3 := Lib.hid ((up2.block (w.heap.size + 1) hlt2).trans HPK2.out)
  have HK0' := Lib.hid k0
  clear hw3 up2 k0
  obtain ⟨S, hS⟩ : ∃ S : ByteArray, (⟨(p.puts (hasI kk)).toArray⟩ : ByteArray) = S := ⟨_, rfl⟩
  have hput := put_any' kk p r3 r6 d3 d6 b w3 HG3.out P3.out P6.out HOK.out.ok (by have := own_S HOK.out; omega) (fun _ _ => by have := own_puts_len HOK.out (hasNotI_len8 kk); omega)
  rw [putOf_own (own_has HOK.out) HOK.out.fits HOK.out.only, hS] at hput
  have HSL := Lib.hid (show S.size ≤ 1024 by rw [← hS, show (⟨(p.puts (hasI kk)).toArray⟩ : ByteArray).size = (p.puts (hasI kk)).length from List.size_toArray ..]; exact own_S HOK.out)
  have HSP := Lib.hid (show S.data.toList = p.puts (hasI kk) by rw [← hS])
  have HSG := Lib.hid (show Pl.getOf kk S.data.toList = some p by rw [HSP.out]; exact getOf_own (own_has HOK.out) HOK.out.fits HOK.out.only)
  clear hS
  refine hput.mono ?_
  clear hput
  rintro e w4 ⟨rfl, hb4⟩
  have q0 := (hb4.block w2.heap.size (by omega)).trans HK0'.out
  have hz4 : w2.heap.size < w4.heap.size := by have := hb4.size; omega
  have HB4 := Lib.hid (HB3.out.trans (hb4.mono HB3.out.size))
  have HPK4 := Lib.hid ((hb4.block (w.heap.size + 1) (by omega)).trans HPK3.out)
  have u0 : w4.cell? ⟨w2.heap.size, 0, none⟩ = some (.string p.name) := (Lib.cell_of_heap q0 0).trans rfl
  clear hb4 q0
  have HT := Lib.hid (World.alloc_heap_new w4 (.cells #[.int .i64 kk, .string p.name] 23))
  have up5 := below_alloc w4 (.cells #[.int .i64 kk, .string p.name] 23)
  have HB5 := Lib.hid (HB4.out.trans (up5.mono HB4.out.size))
  have HPK5 := Lib.hid ((up5.block (w.heap.size + 1) (by omega)).trans HPK4.out)
  clear up5
  have HFW := Lib.hid (fun w hg => right_own HOK.out S HSL.out HSG.out b w hg)
  have gK := ck_guardKey
  have eK := fun W => ck_eqlKey u kk x p.name W
  obtain ⟨Q, hQ⟩ : ∃ Q, (u == kk && x.toList == p.name.toList) = Q := ⟨_, rfl⟩
  simp only [hQ] at eK
  obtain ⟨E, hE⟩ : ∃ E, (x.toList == p.name.toList) = E := ⟨_, rfl⟩
  have HQE := Lib.hid (show E = false → Q = false by intro h; rw [← hQ, hE, h]; simp)
  have HBO := Lib.hid (fun h => body_other HOK.out S HSL.out HSP.out u x h)
  have HEE := Lib.hid hE
  clear hQ
  by_cases h2 : kk = 2
  · have q2 : (kk == 2) = true := by simpa using h2
    clear h2
    go_wp2_with fail
    obtain ⟨W5, hW5⟩ : ∃ W5, w4.alloc (.cells #[.int .i64 kk, .string p.name] 23) = W5 := ⟨_, rfl⟩
    have hz5 : W5.heap.size = w4.heap.size + 1 := by rw [← hW5, World.size_alloc]
    rw [hW5] at HB5 HPK5 HT ⊢
    clear hW5 u0
    refine (body_no kk p.name S b _ (HGW.out.below HB5.out) HFW.out).mono ?_
    rintro e w6 ⟨rfl, hb⟩
    have HB6 := Lib.hid (HB5.out.trans (hb.mono HB5.out.size))
    have pk := (hb.block (w.heap.size + 1) (by omega)).trans HPK5.out
    have pt := (hb.block w4.heap.size (by omega)).trans HT.out
    have c0 : w6.cell? ⟨w.heap.size + 1, 0, none⟩ = some (.int .i64 u) := (Lib.cell_of_heap pk 0).trans rfl
    have c1 : w6.cell? ⟨w.heap.size + 1, 1, none⟩ = some (.string x) := (Lib.cell_of_heap pk 1).trans rfl
    have d0 : w6.cell? ⟨w4.heap.size, 0, none⟩ = some (.int .i64 kk) := (Lib.cell_of_heap pt 0).trans rfl
    have d1 : w6.cell? ⟨w4.heap.size, 1, none⟩ = some (.string p.name) := (Lib.cell_of_heap pt 1).trans rfl
    clear hb pk pt
    cases E with
    | true =>
      go_wp2_with fail
      go_ret
      exact ⟨rfl, HB6.out⟩
    | false =>
      obtain ⟨X, hX, hbo⟩ := HBO.out (Or.inl HEE.out)
      have HBOX := Lib.hid hbo
      clear hbo
      go_wp2_with fail
      refine (HBOX.out b _ (HGW.out.below HB6.out) (HEW.out.below HB6.out)).mono ?_
      rintro e w7 ⟨rfl, hb⟩
      have HB7 := Lib.hid (HB6.out.trans (hb.mono HB6.out.size))
      clear hb
      go_wp2_with fail
      go_ret
      exact ⟨rfl, HB7.out⟩
  · have q2 : (kk == 2) = false := by simpa using h2
    clear h2
    go_wp2_with fail
    obtain ⟨W5, hW5⟩ : ∃ W5, w4.alloc (.cells #[.int .i64 kk, .string p.name] 23) = W5 := ⟨_, rfl⟩
    have hz5 : W5.heap.size = w4.heap.size + 1 := by rw [← hW5, World.size_alloc]
    rw [hW5] at HB5 HPK5 HT ⊢
    clear hW5 u0
    refine (body_no kk p.name S b _ (HGW.out.below HB5.out) HFW.out).mono ?_
    rintro e w6 ⟨rfl, hb⟩
    have HB6 := Lib.hid (HB5.out.trans (hb.mono HB5.out.size))
    have pk := (hb.block (w.heap.size + 1) (by omega)).trans HPK5.out
    have pt := (hb.block w4.heap.size (by omega)).trans HT.out
    have c0 : w6.cell? ⟨w.heap.size + 1, 0, none⟩ = some (.int .i64 u) := (Lib.cell_of_heap pk 0).trans rfl
    have c1 : w6.cell? ⟨w.heap.size + 1, 1, none⟩ = some (.string x) := (Lib.cell_of_heap pk 1).trans rfl
    have d0 : w6.cell? ⟨w4.heap.size, 0, none⟩ = some (.int .i64 kk) := (Lib.cell_of_heap pt 0).trans rfl
    have d1 : w6.cell? ⟨w4.heap.size, 1, none⟩ = some (.string p.name) := (Lib.cell_of_heap pt 1).trans rfl
    clear hb pk pt
    cases Q with
    | true =>
      go_wp2_with fail
      go_ret
      exact ⟨rfl, HB6.out⟩
    | false =>
      cases E with
      | false =>
        obtain ⟨X, hX, hbo⟩ := HBO.out (Or.inl HEE.out)
        have HBOX := Lib.hid hbo
        clear hbo
        go_wp2_with fail
        refine (HBOX.out b _ (HGW.out.below HB6.out) (HEW.out.below HB6.out)).mono ?_
        rintro e w7 ⟨rfl, hb⟩
        have HB7 := Lib.hid (HB6.out.trans (hb.mono HB6.out.size))
        clear hb
        go_wp2_with fail
        go_ret
        exact ⟨rfl, HB7.out⟩
      | true =>
        by_cases h1 : 1 ≤ u
        · by_cases h5 : u ≤ 5
          · go_wp2_with fail
            go_ret
            exact ⟨rfl, HB6.out⟩
          · obtain ⟨X, hX, hbo⟩ := HBO.out (Or.inr fun h => h5 h.2)
            have HBOX := Lib.hid hbo
            clear hbo
            go_wp2_with fail
            refine (HBOX.out b _ (HGW.out.below HB6.out) (HEW.out.below HB6.out)).mono ?_
            rintro e w7 ⟨rfl, hb⟩
            have HB7 := Lib.hid (HB6.out.trans (hb.mono HB6.out.size))
            clear hb
            go_wp2_with fail
            go_ret
            exact ⟨rfl, HB7.out⟩
        · obtain ⟨X, hX, hbo⟩ := HBO.out (Or.inr fun h => h1 h.1)
          have HBOX := Lib.hid hbo
          clear hbo
          go_wp2_with fail
          refine (HBOX.out b _ (HGW.out.below HB6.out) (HEW.out.below HB6.out)).mono ?_
          rintro e w7 ⟨rfl, hb⟩
          have HB7 := Lib.hid (HB6.out.trans (hb.mono HB6.out.size))
          clear hb
          go_wp2_with fail
          go_ret
          exact ⟨rfl, HB7.out⟩
end Go.Proofs.YtngceccpebdgmaaGreatDoor.ckRight
namespace Go.Proofs.YtngceccpebdgmaaGreatDoor.ckRight
open Go.ChangeShapes Go.WideShapes Go.ChangeAt Go.RowKit
open Go.WideMaps Go.WideElems
open Go.ChangeMaps (open_string shut_string)


set_option maxRecDepth 100000 in
theorem contract (H : Type) (enc : TypeId × Value → H) (W : World) (base : Nat) (args : Array Value) (ds gs : List (DataW H)) (before : List MemPlace) (hk' : Rows.uptoSmall H (ds ++ gs) = true)
    (hval : ∀ (j : Nat) t v, Tryz.f5.params[j]? = some t → args[j]? = some v → Value.okWide Tryz.prog W .any base t v)
    (hW : DataW.Whole enc Tryz.prog Tryz.f5.params.toList Rows.checkRightSpec.vars false W args.toList ds gs before) (hL : laidMetH Tryz.prog Rows.checkRightUptoRow.laid W) :
    Calls Tryz.prog 5 args W fun e W' => ∃ v, e = .returned v ∧ Rows.checkRightSpec.post enc Tryz.prog Tryz.f5 false true false false W args v W' := by
  have hW' := hW
  obtain ⟨p, q, hA0, hV, rfl, hfz, hnd⟩ := hW
  have hA : DataW.TrodAll enc Tryz.prog W 0 (fun _ => true) true Tryz.f5.params.toList args.toList ds p := hA0
  have HK := Lib.hid (fun (W' : World) (hb : Below W.heap.size W W') (sp : Nat → Bool) (hs : ∀ x ∈ p, sp x.block = true) => trodAll_keep (sp := sp) Tryz.kids Tryz.sliceCells hb (by rw [Tryz.params5]; decide +kernel) hA hs)
  clear hA0
  rw [Tryz.params5] at hA hval
  obtain ⟨v0, vs0, d0, ds0, p0, q0, hargs, rfl, rfl, h0, r0⟩ := trodAll_cons hA
  obtain ⟨v1, vs1, d1, ds1, p1, q1, rfl, rfl, rfl, h1, r1⟩ := trodAll_cons r0
  obtain ⟨rfl, rfl, rfl⟩ := trodAll_nil r1
  obtain rfl : args = #[v0, v1] := Array.ext' hargs
  obtain ⟨rfl, rfl⟩ := trodVars_none hV
  simp only [List.append_nil] at hW' HK
  obtain ⟨b, hg⟩ := gv_of_laid hL
  obtain ⟨s0, s2, s5, s7, m1, m4, nn, mm, a3, a6, l3, c3, l6, c6, kd, own, rfl, hnn, hmm, hm1, hm4, hs7, y0, y1, y2, y3, y4, y5, y6, z1, z2, z3, z4, hd0⟩ := open_made (hval 0 38 v0 rfl rfl) h0
  subst hd0
  obtain ⟨t1, x1, rfl, wx1, y1, hd1⟩ := open_key (hval 1 23 v1 rfl rfl) h1
  subst hd1
  have hge := ge_of_laid hL
  have hbk := of_decide_eq_true hk'
  simp only [List.append_nil, Rows.uptoBulkAll, Rows.uptoBulk] at hbk
  have hl7 : s7.data.toList.length = s7.size := by simp
  refine (walk s0 s2 s5 s7 m1 m4 nn mm a3 a6 l3 c3 l6 c6 kd own t1 x1 b W hg hge hnn hmm hm1 hm4 (by omega)).mono fun e W' ⟨he, hb⟩ => ?_
  subst he
  exact ⟨_, rfl, post_of_below (pv := []) hW' (fun _ _ _ => trodAll_cons_mk (shut_bool Tryz.underlying4 _) trodAll_mk0) (fun sp hs => HK.out W' hb sp hs) (fun _ _ => rfl) (List.append_nil _).symm
    hb (ok_one (by kernel_rfl) rfl (okWide_bool_mk Tryz.underlying4 _))⟩

theorem reads (os : Os) {H : Type} (enc : TypeId × Value → H) : ∃ places, DataW.whole enc Tryz.prog ((laidWorld os).forCall (fun _ _ => 0) ⟨#[], #[.agg #[.string ⟨#[]⟩, .int .u64 0, .string ⟨#[]⟩, .slice none 0 0, .int .u64 0, .string ⟨#[]⟩, .slice none 0 0, .string ⟨#[]⟩, .int .i64 0, .bool false, .int .u8 0, .int .u8 0], .agg #[.int .i64 0, .string ⟨#[]⟩]], []⟩).memory Tryz.f5.params.toList Rows.checkRightSpec.vars false (#[.agg #[.string ⟨#[]⟩, .int .u64 0, .string ⟨#[]⟩, .slice none 0 0, .int .u64 0, .string ⟨#[]⟩, .slice none 0 0, .string ⟨#[]⟩, .int .i64 0, .bool false, .int .u8 0, .int .u8 0], .agg #[.int .i64 0, .string ⟨#[]⟩]] : Array Value).toList 8 = some ([.agg [.agg [.lit (.string []), .lit (.int .u64 0), .lit (.string []), .nil, .lit (.int .u64 0), .lit (.string []), .nil, .lit (.string [])], .lit (.int .i64 0), .lit (.bool false), .lit (.int .u8 0), .lit (.int .u8 0)], .agg [.lit (.int .i64 0), .lit (.string [])]], [], places) :=
  ⟨[], by kernel_rfl⟩

set_option maxRecDepth 100000 in
theorem lifted (os : Os) (started : os.Started) (H : Type) (enc : TypeId × Value → H) (F : Stop.Interp) :
    ReturnsInHanded {} Tryz.checked os 5 .any ((Rows.OpenSpec.upto Rows.checkRightSpec).preRow enc Tryz.prog Tryz.f5 Rows.checkRightUptoRow.domain false Rows.checkRightUptoRow.laid) (((Rows.OpenSpec.upto Rows.checkRightSpec).at F).post enc Tryz.prog Tryz.f5 false true false false) := by
  obtain ⟨places, hx⟩ := reads os enc
  refine returnsInHanded_of_row (C := Tryz.checked) (s := (Rows.OpenSpec.upto Rows.checkRightSpec)) Tryz.own started (by kernel_rfl) Tryz.func5
    (witness_row_at (enc := enc) (C := Tryz.checked) false (laidWorld os) #[.agg #[.string ⟨#[]⟩, .int .u64 0, .string ⟨#[]⟩, .slice none 0 0, .int .u64 0, .string ⟨#[]⟩, .slice none 0 0, .string ⟨#[]⟩, .int .i64 0, .bool false, .int .u8 0, .int .u8 0], .agg #[.int .i64 0, .string ⟨#[]⟩]] rfl (by kernel_rfl) (by kernel_rfl) (by kernel_rfl)
      (OpenSpec.preRow_of_cond 8 hx (by kernel_rfl) (fun k hk => by cases hk; kernel_rfl) (by kernel_rfl) (laid_met os _))) ?_
  intro W base args ds gs before hval hW _ hcond _ hL _ _
  exact contract H enc W base args ds gs before (hcond _ rfl) hval hW hL

theorem said : Rows.CheckRightUptoSaid :=
  OpenClaim.holds_of_cond 5 Tryz.f5 rfl rfl rfl rfl rfl rfl rfl ⟨rfl, rfl, rfl, rfl, rfl⟩ rfl rfl rfl rfl rfl (by kernel_rfl) Tryz.func5 (by kernel_rfl)
    (of_decide_eq_true (by kernel_rfl)) (by unfold Func.isWrapper; first | (rw [if_pos (by decide +kernel)]; kernel_rfl) | (rw [if_neg (by decide +kernel)]; exact ⟨rfl, rfl⟩))
    (fun os started H enc _ F => by rw [OpenClaim.pre_eq_preRow]; exact lifted os started H enc F)

theorem plain (f : FuncId) (fn : Func) (hf : Tryz.pinned.checked.prog.funcNamed "noria/norialaw03.CheckRight" = some f) (hfn : Tryz.pinned.checked.prog.funcs[f]? = some fn) :
    true = Tryz.pinned.checked.prog.looks [] ∧ ∀ (j : Nat) t, fn.params[j]? = some t → Tryz.pinned.checked.prog.wantsStandIn t = false := by
  obtain rfl : f = 5 := Option.some.inj ((show Tryz.prog.funcNamed "noria/norialaw03.CheckRight" = some 5 by kernel_rfl).symm.trans hf) |>.symm
  obtain rfl : fn = Tryz.f5 := (Option.some.inj (Tryz.func5.symm.trans hfn)).symm
  refine ⟨by kernel_rfl, fun j t ht => ?_⟩
  rw [Tryz.params5] at ht
  have hm := Array.mem_of_getElem? ht
  simp only [List.mem_toArray, List.mem_cons, List.not_mem_nil, or_false] at hm
  rcases hm with rfl | rfl
  · exact (show Tryz.prog.wantsStandIn 38 = false by kernel_rfl)
  · exact (show Tryz.prog.wantsStandIn 23 = false by kernel_rfl)

theorem card : Rows.CheckRightUptoCardSaid :=
  Claim7.holds_tied_plain_at .later [] _ _ _ _ said (fun _ h => by cases h) (by kernel_rfl) (fun _ h => by cases h) checkRightUpto_row_tie rfl ⟨rfl, rfl⟩ (by kernel_rfl) rfl plain (by kernel_rfl)
end Go.Proofs.YtngceccpebdgmaaGreatDoor.ckRight
