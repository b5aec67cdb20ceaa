/- payload: what was put is got: plain, of any payload that fits. -/
import Derived.Test.YtngceccpebdgmaaGreatDoorPlPutC
import Derived.Test.YtngceccpebdgmaaGreatDoorPlGet
import Derived.Test.YtngceccpebdgmaaGreatDoorAppend
namespace Go.Proofs.YtngceccpebdgmaaGreatDoor

/-- l is these fields, whatever stands behind. -/
def Ps (l : List UInt8) (fs : List Fd) : Prop := ∀ r, parse (l ++ r) = (parse r).map (fs ++ ·)
theorem Ps.nil : Ps [] [] := fun r => by cases h : parse r <;> simp [h]
theorem Ps.app {a b : List UInt8} {fa fb : List Fd} (ha : Ps a fa) (hb : Ps b fb) : Ps (a ++ b) (fa ++ fb) := fun r => by
  rw [List.append_assoc, ha, hb]; cases parse r <;> simp
theorem Ps.whole {l : List UInt8} {fs : List Fd} (h : Ps l fs) : parse l = some fs := by
  have := h []
  rw [parse_nil] at this
  simpa using this
theorem Ps.flat {α : Type} {f : α → List UInt8} {g : α → List Fd} : ∀ {xs : List α}, (∀ x ∈ xs, Ps (f x) (g x)) → Ps (xs.flatMap f) (xs.flatMap g)
  | [], _ => Ps.nil
  | x :: xs, h => by
    simp only [List.flatMap_cons]
    exact (h x (by simp)).app (Ps.flat fun y hy => h y (by simp [hy]))
def txtF (num : Nat) (s : ByteArray) : List Fd := if s.size = 0 then [] else [⟨num, 2, 0, s.data.toList⟩]
def nmbF (num n : Nat) : List Fd := if n = 0 then [] else [⟨num, 0, n, []⟩]
theorem Ps.text (num : Int) (s : ByteArray) (hs : s.size < 2 ^ 64) (h1 : 1 ≤ num) (h2 : num ≤ 536870911) : Ps (textL num s) [⟨num.toNat, 2, 0, s.data.toList⟩] := fun r => by
  rw [parse_text num s r hs h1 h2]; cases parse r <;> rfl
theorem Ps.number (num : Int) (n : Nat) (hn : n < 2 ^ 64) (h1 : 1 ≤ num) (h2 : num ≤ 536870911) : Ps (numberL num n) [⟨num.toNat, 0, n, []⟩] := fun r => by
  rw [parse_number num n r hn h1 h2]; cases parse r <;> rfl
theorem Ps.txt (num : Int) (s : ByteArray) (hs : s.size < 2 ^ 64) (h1 : 1 ≤ num) (h2 : num ≤ 536870911) : Ps (txtL num s) (txtF num.toNat s) := by
  unfold txtL txtF
  split
  · exact Ps.nil
  · exact Ps.text num s hs h1 h2
theorem Ps.nmb (num : Int) (n : Nat) (hn : n < 2 ^ 64) (h1 : 1 ≤ num) (h2 : num ≤ 536870911) : Ps (nmbL num n) (nmbF num.toNat n) := by
  unfold nmbL nmbF
  split
  · exact Ps.nil
  · exact Ps.number num n hn h1 h2

/-- The fields that a part is put as. -/
def Pl.fds (i : Nat) (p : Pl) : List Fd := match i with
  | 0 => txtF 1 p.name
  | 1 => nmbF 2 p.port
  | 2 => txtF 3 p.route
  | 3 => p.rules.map fun r => ⟨4, 2, 0, r.all⟩
  | 4 => nmbF 5 p.policy
  | 5 => txtF 6 p.secret
  | 6 => p.addrs.map fun a => ⟨7, 2, 0, a.all⟩
  | 7 => txtF 8 p.key
  | _ => []
/-- Sizes and numbers of at most 64 bits; at most 64 rules, and addresses. -/
structure Fits (p : Pl) : Prop where
  name : p.name.size < 2 ^ 64
  port : p.port < 2 ^ 64
  route : p.route.size < 2 ^ 64
  rule : ∀ r ∈ p.rules, r.all.length < 2 ^ 64
  policy : p.policy < 2 ^ 64
  secret : p.secret.size < 2 ^ 64
  addr : ∀ a ∈ p.addrs, a.all.length < 2 ^ 64 ∧ a.port < 2 ^ 64 ∧ a.wt < 2 ^ 64
  key : p.key.size < 2 ^ 64
  rules : p.rules.length ≤ 64
  addrs : p.addrs.length ≤ 64
theorem Pl.put_ps {p : Pl} (h : Fits p) (i : Nat) : Ps (p.put i) (p.fds i) := by
  match i with
  | 0 => simp only [Pl.put, Pl.fds]; exact Ps.txt 1 _ h.name (by decide) (by decide)
  | 1 => simp only [Pl.put, Pl.fds]; exact Ps.nmb 2 _ h.port (by decide) (by decide)
  | 2 => simp only [Pl.put, Pl.fds]; exact Ps.txt 3 _ h.route (by decide) (by decide)
  | 3 =>
    simp only [Pl.put, Pl.fds]
    rw [List.map_eq_flatMap]
    exact Ps.flat fun r hr => Ps.text 4 _ (by simpa [ByteArray.size] using h.rule r hr) (by decide) (by decide)
  | 4 => simp only [Pl.put, Pl.fds]; exact Ps.nmb 5 _ h.policy (by decide) (by decide)
  | 5 => simp only [Pl.put, Pl.fds]; exact Ps.txt 6 _ h.secret (by decide) (by decide)
  | 6 =>
    simp only [Pl.put, Pl.fds]
    rw [List.map_eq_flatMap]
    exact Ps.flat fun r hr => Ps.text 7 _ (by simpa [ByteArray.size] using (h.addr r hr).1) (by decide) (by decide)
  | 7 => simp only [Pl.put, Pl.fds]; exact Ps.txt 8 _ h.key (by decide) (by decide)
  | i + 8 => exact Ps.nil
theorem Pl.puts_ps {p : Pl} (h : Fits p) (is : List Nat) : Ps (p.puts is) (is.flatMap (Pl.fds · p)) := Ps.flat fun i _ => Pl.put_ps h i
theorem takes_app {σ : Type} {one : σ → Fd → Option σ} : ∀ {a b : List Fd} {s : σ}, takes one (a ++ b) s = (takes one a s).bind (takes one b)
  | [], b, s => rfl
  | f :: a, b, s => by
    simp only [List.cons_append, takes]
    cases one s f with
    | none => rfl
    | some s' => exact takes_app
theorem one_hit {σ : Type} {kind : Nat → Nat} {step : Nat → σ → Fd → Option σ} {i : Nat} {s : σ} {f : Fd} (hn : f.num = i + 1) (hk : kind i = f.kind) : ∀ {is : List Nat}, i ∈ is → oneOf kind step is s f = step i s f
  | [], h => by cases h
  | j :: is, h => by
    unfold oneOf
    by_cases hj : j + 1 = f.num
    · obtain rfl : j = i := by omega
      rw [if_pos hj, if_pos hk]
    · rw [if_neg hj]
      rcases List.mem_cons.1 h with rfl | h
      · omega
      · exact one_hit hn hk h
theorem one_miss {σ : Type} {kind : Nat → Nat} {step : Nat → σ → Fd → Option σ} {s : σ} {f : Fd} : ∀ {is : List Nat}, (∀ j ∈ is, j + 1 ≠ f.num) → oneOf kind step is s f = some s
  | [], _ => rfl
  | j :: is, h => by
    unfold oneOf
    rw [if_neg (h j (by simp))]
    exact one_miss fun k hk => h k (by simp [hk])
theorem takes_miss {σ : Type} {kind : Nat → Nat} {step : Nat → σ → Fd → Option σ} {s : σ} {is : List Nat} : ∀ {fs : List Fd}, (∀ f ∈ fs, ∀ j ∈ is, j + 1 ≠ f.num) → takes (oneOf kind step is) fs s = some s
  | [], _ => rfl
  | f :: fs, h => by
    unfold takes
    rw [one_miss (h f (by simp))]
    exact takes_miss fun g hg => h g (by simp [hg])
theorem Pl.fds_num {p : Pl} {i : Nat} : ∀ f ∈ p.fds i, f.num = i + 1 := by
  intro f hf
  match i with
  | 0 => simp only [Pl.fds, txtF] at hf; split at hf <;> simp at hf; subst hf; rfl
  | 1 => simp only [Pl.fds, nmbF] at hf; split at hf <;> simp at hf; subst hf; rfl
  | 2 => simp only [Pl.fds, txtF] at hf; split at hf <;> simp at hf; subst hf; rfl
  | 3 => simp only [Pl.fds, List.mem_map] at hf; obtain ⟨r, _, rfl⟩ := hf; rfl
  | 4 => simp only [Pl.fds, nmbF] at hf; split at hf <;> simp at hf; subst hf; rfl
  | 5 => simp only [Pl.fds, txtF] at hf; split at hf <;> simp at hf; subst hf; rfl
  | 6 => simp only [Pl.fds, List.mem_map] at hf; obtain ⟨r, _, rfl⟩ := hf; rfl
  | 7 => simp only [Pl.fds, txtF] at hf; split at hf <;> simp at hf; subst hf; rfl
  | i + 8 => simp [Pl.fds] at hf

theorem size_nil {s : ByteArray} (h : s.size = 0) : s = ⟨#[]⟩ := by
  obtain ⟨a⟩ := s
  have : a = #[] := Array.eq_empty_of_size_eq_zero h
  rw [this]
theorem takes_txt {σ : Type} {one : σ → Fd → Option σ} {num : Nat} {s : ByteArray} {t t' : σ} (h0 : s.size = 0 → t' = t) (h1 : one t ⟨num, 2, 0, s.data.toList⟩ = some t') : takes one (txtF num s) t = some t' := by
  unfold txtF
  split
  · rename_i h; rw [h0 h]; rfl
  · simp only [takes, h1]
theorem takes_nmb {σ : Type} {one : σ → Fd → Option σ} {num n : Nat} {t t' : σ} (h0 : n = 0 → t' = t) (h1 : one t ⟨num, 0, n, []⟩ = some t') : takes one (nmbF num n) t = some t' := by
  unfold nmbF
  split
  · rename_i h; rw [h0 h]; rfl
  · simp only [takes, h1]
theorem Rl.get_all {r : Rl} (h : r.all.length < 2 ^ 64) : Rl.get r.all = some r := by
  have e := Rl.all_eq r
  have h1 := txtL_len (num := 1) r.pre (by decide)
  have h2 := txtL_len (num := 2) r.clu (by decide)
  have hl : r.all.length = (txtL 1 r.pre).length + (txtL 2 r.clu).length := by rw [e, List.length_append]
  have hp := ((Ps.txt 1 r.pre (by omega) (by decide) (by decide)).app (Ps.txt 2 r.clu (by omega) (by decide) (by decide))).whole
  rw [← e] at hp
  unfold Rl.get
  rw [allOf_some hp, takes_app, takes_txt (t' := ⟨r.pre, ⟨#[]⟩⟩) (fun h => by rw [size_nil h]; rfl) rfl]
  exact takes_txt (t' := r) (fun h => by rw [← size_nil h]) rfl
theorem Ad.get_all {a : Ad} (h : a.all.length < 2 ^ 64) (h2 : a.port < 2 ^ 64) (h3 : a.wt < 2 ^ 64) : Ad.get a.all = some a := by
  have e := Ad.all_eq a
  have h1 := txtL_len (num := 1) a.host (by decide)
  have hl : a.all.length = (txtL 1 a.host).length + ((nmbL 2 a.port).length + (nmbL 3 a.wt).length) := by rw [e, List.length_append, List.length_append]
  have hp := ((Ps.txt 1 a.host (by omega) (by decide) (by decide)).app ((Ps.nmb 2 a.port h2 (by decide) (by decide)).app (Ps.nmb 3 a.wt h3 (by decide) (by decide)))).whole
  rw [← e] at hp
  unfold Ad.get
  rw [allOf_some hp, takes_app, takes_txt (t' := ⟨a.host, 0, 0⟩) (fun h => by rw [size_nil h]; rfl) rfl]
  show takes Ad.one _ _ = _
  rw [takes_app, takes_nmb (t' := ⟨a.host, a.port, 0⟩) (fun h => by rw [h]) rfl]
  exact takes_nmb (t' := a) (fun h => by rw [← h]) rfl
theorem takes_rules {is : List Nat} (hi : 3 ∈ is) : ∀ {rs : List Rl} {s : Pl}, (∀ r ∈ rs, r.all.length < 2 ^ 64) → s.rules.length + rs.length ≤ 64 → takes (Pl.one is) (rs.map fun r => ⟨4, 2, 0, r.all⟩) s = some { s with rules := s.rules ++ rs }
  | [], s, _, _ => by simp [takes]
  | r :: rs, s, h, hl => by
    simp only [List.length_cons] at hl
    have h1 : Pl.one is s ⟨4, 2, 0, r.all⟩ = some { s with rules := s.rules ++ [r] } := by
      unfold Pl.one
      rw [one_hit (i := 3) rfl rfl hi]
      simp only [Pl.take]
      rw [if_neg (by omega), Rl.get_all (h r (by simp))]; rfl
    simp only [List.map_cons, takes, h1]
    rw [takes_rules hi (fun x hx => h x (by simp [hx])) (by simp; omega)]
    simp
theorem takes_addrs {is : List Nat} (hi : 6 ∈ is) : ∀ {rs : List Ad} {s : Pl}, (∀ a ∈ rs, a.all.length < 2 ^ 64 ∧ a.port < 2 ^ 64 ∧ a.wt < 2 ^ 64) → s.addrs.length + rs.length ≤ 64 → takes (Pl.one is) (rs.map fun r => ⟨7, 2, 0, r.all⟩) s = some { s with addrs := s.addrs ++ rs }
  | [], s, _, _ => by simp [takes]
  | r :: rs, s, h, hl => by
    simp only [List.length_cons] at hl
    have hr := h r (by simp)
    have h1 : Pl.one is s ⟨7, 2, 0, r.all⟩ = some { s with addrs := s.addrs ++ [r] } := by
      unfold Pl.one
      rw [one_hit (i := 6) rfl rfl hi]
      simp only [Pl.take]
      rw [if_neg (by omega), Ad.get_all hr.1 hr.2.1 hr.2.2]; rfl
    simp only [List.map_cons, takes, h1]
    rw [takes_addrs hi (fun x hx => h x (by simp [hx])) (by simp; omega)]
    simp

/-- s with part i as p has it. -/
def Pl.upd (i : Nat) (p s : Pl) : Pl := match i with
  | 0 => { s with name := p.name }
  | 1 => { s with port := p.port }
  | 2 => { s with route := p.route }
  | 3 => { s with rules := p.rules }
  | 4 => { s with policy := p.policy }
  | 5 => { s with secret := p.secret }
  | 6 => { s with addrs := p.addrs }
  | 7 => { s with key := p.key }
  | _ => s
def Pl.bareAt (i : Nat) (s : Pl) : Prop := match i with
  | 0 => s.name = ⟨#[]⟩
  | 1 => s.port = 0
  | 2 => s.route = ⟨#[]⟩
  | 3 => s.rules = []
  | 4 => s.policy = 0
  | 5 => s.secret = ⟨#[]⟩
  | 6 => s.addrs = []
  | 7 => s.key = ⟨#[]⟩
  | _ => True
theorem takes_part {p : Pl} (h : Fits p) {is : List Nat} {i : Nat} (hi : i ∈ is) {s : Pl} (hz : s.bareAt i) : takes (Pl.one is) (p.fds i) s = some (p.upd i s) := by
  match i, hi, hz with
  | 0, hi, hz =>
    obtain ⟨a0, a1, a2, a3, a4, a5, a6, a7⟩ := s
    exact takes_txt (fun h => by simp only [Pl.bareAt] at hz; simp [Pl.upd, hz, size_nil h]) (by unfold Pl.one; rw [one_hit (i := 0) rfl rfl hi]; rfl)
  | 1, hi, hz =>
    obtain ⟨a0, a1, a2, a3, a4, a5, a6, a7⟩ := s
    exact takes_nmb (fun h => by simp only [Pl.bareAt] at hz; simp [Pl.upd, hz, h]) (by unfold Pl.one; rw [one_hit (i := 1) rfl rfl hi]; rfl)
  | 2, hi, hz =>
    obtain ⟨a0, a1, a2, a3, a4, a5, a6, a7⟩ := s
    exact takes_txt (fun h => by simp only [Pl.bareAt] at hz; simp [Pl.upd, hz, size_nil h]) (by unfold Pl.one; rw [one_hit (i := 2) rfl rfl hi]; rfl)
  | 3, hi, hz =>
    have hz : s.rules = [] := hz
    show takes (Pl.one is) (p.rules.map fun r => ⟨4, 2, 0, r.all⟩) s = _
    rw [takes_rules hi h.rule (by have := h.rules; rw [hz]; simpa using this), hz]; rfl
  | 4, hi, hz =>
    obtain ⟨a0, a1, a2, a3, a4, a5, a6, a7⟩ := s
    exact takes_nmb (fun h => by simp only [Pl.bareAt] at hz; simp [Pl.upd, hz, h]) (by unfold Pl.one; rw [one_hit (i := 4) rfl rfl hi]; rfl)
  | 5, hi, hz =>
    obtain ⟨a0, a1, a2, a3, a4, a5, a6, a7⟩ := s
    exact takes_txt (fun h => by simp only [Pl.bareAt] at hz; simp [Pl.upd, hz, size_nil h]) (by unfold Pl.one; rw [one_hit (i := 5) rfl rfl hi]; rfl)
  | 6, hi, hz =>
    have hz : s.addrs = [] := hz
    show takes (Pl.one is) (p.addrs.map fun r => ⟨7, 2, 0, r.all⟩) s = _
    rw [takes_addrs hi h.addr (by have := h.addrs; rw [hz]; simpa using this), hz]; rfl
  | 7, hi, hz =>
    obtain ⟨a0, a1, a2, a3, a4, a5, a6, a7⟩ := s
    exact takes_txt (fun h => by simp only [Pl.bareAt] at hz; simp [Pl.upd, hz, size_nil h]) (by unfold Pl.one; rw [one_hit (i := 7) rfl rfl hi]; rfl)
  | i + 8, hi, hz => rfl
theorem takes_next {p : Pl} (h : Fits p) {is : List Nat} {i : Nat} (hi : i ∈ is) {s : Pl} (hz : s.bareAt i) (fs : List Fd) : takes (Pl.one is) (p.fds i ++ fs) s = takes (Pl.one is) fs (p.upd i s) := by
  rw [takes_app, takes_part h hi hz]; rfl
theorem getOf_ps {k : Int} (hk : (hasOf k).2 = true) {l : List UInt8} {fs : List Fd} (h : Ps l fs) : Pl.getOf k l = takes (Pl.one (hasI k)) fs Pl.zero := by
  unfold Pl.getOf
  rw [if_pos hk, allOf_some h.whole]

/-- A payload of a name alone. -/
def bareP (n : ByteArray) : Pl := ⟨n, 0, ⟨#[]⟩, [], 0, ⟨#[]⟩, [], ⟨#[]⟩⟩
/-- p has just what a payload of type k may have. -/
def OnlyOf (k : Int) (p : Pl) : Prop := ∀ i, 1 ≤ i → i ∉ hasI k → p.bareAt i
theorem flat_len {α : Type} {f : α → List UInt8} {B : Nat} : ∀ {xs : List α}, (∀ x ∈ xs, (f x).length ≤ B) → (xs.flatMap f).length ≤ xs.length * B
  | [], _ => by simp
  | x :: xs, h => by
    have h1 := h x (by simp)
    have h2 := flat_len (f := f) (B := B) (xs := xs) fun y hy => h y (List.mem_cons_of_mem _ hy)
    simp only [List.flatMap_cons, List.length_append, List.length_cons, Nat.add_mul]
    omega
theorem numberL_le (num : Int) (n : Nat) : (numberL num n).length ≤ 20 := by
  have h1 := (vnt_len n).2
  have h2 := (vnt_len (num.toNat * 8)).2
  unfold numberL
  split
  · simp [putL]; omega
  · simp
theorem textL_le (num : Int) (s : ByteArray) : (textL num s).length ≤ 20 + s.size := by
  have h1 := (vnt_len s.size).2
  have h2 := (vnt_len (num.toNat * 8 + 2)).2
  unfold textL
  split
  · simp [putL]; omega
  · simp
theorem txtL_le (num : Int) (s : ByteArray) : (txtL num s).length ≤ 20 + s.size := by
  have := textL_le num s
  unfold txtL; split
  · simp
  · exact this
theorem nmbL_le (num : Int) (n : Nat) : (nmbL num n).length ≤ 20 := by
  have := numberL_le num n
  unfold nmbL; split
  · simp
  · exact this
theorem Rl.all_le (r : Rl) : r.all.length ≤ 40 + r.pre.size + r.clu.size := by
  have h1 := txtL_le 1 r.pre
  have h2 := txtL_le 2 r.clu
  rw [Rl.all_eq, List.length_append]; omega
theorem Ad.all_le (a : Ad) : a.all.length ≤ 60 + a.host.size := by
  have h1 := txtL_le 1 a.host
  have h2 := nmbL_le 2 a.port
  have h3 := nmbL_le 3 a.wt
  rw [Ad.all_eq, List.length_append, List.length_append]; omega

theorem takes_own {k : Int} {p : Pl} (hk : (hasOf k).2 = true) (hf : Fits p) (ho : OnlyOf k p) : takes (Pl.one (hasI k)) ((hasI k).flatMap (Pl.fds · p)) Pl.zero = some p := by
  rcases hasOf_cases hk with rfl | rfl | rfl | rfl | rfl
  · show takes (Pl.one [0, 1, 2]) (p.fds 0 ++ (p.fds 1 ++ (p.fds 2 ++ []))) Pl.zero = some p
    refine (takes_next hf (i := 0) (by decide) (by rfl) _).trans ?_
    refine (takes_next hf (i := 1) (by decide) (by rfl) _).trans ?_
    refine (takes_next hf (i := 2) (by decide) (by rfl) _).trans ?_
    have e3 : p.rules = [] := ho 3 (by decide) (by decide)
    have e4 : p.policy = 0 := ho 4 (by decide) (by decide)
    have e5 : p.secret = ⟨#[]⟩ := ho 5 (by decide) (by decide)
    have e6 : p.addrs = [] := ho 6 (by decide) (by decide)
    have e7 : p.key = ⟨#[]⟩ := ho 7 (by decide) (by decide)
    obtain ⟨a0, a1, a2, a3, a4, a5, a6, a7⟩ := p
    simp only at e3 e4 e5 e6 e7
    subst e3; subst e4; subst e5; subst e6; subst e7
    rfl
  · show takes (Pl.one [0, 3]) (p.fds 0 ++ (p.fds 3 ++ [])) Pl.zero = some p
    refine (takes_next hf (i := 0) (by decide) (by rfl) _).trans ?_
    refine (takes_next hf (i := 3) (by decide) (by rfl) _).trans ?_
    have e1 : p.port = 0 := ho 1 (by decide) (by decide)
    have e2 : p.route = ⟨#[]⟩ := ho 2 (by decide) (by decide)
    have e4 : p.policy = 0 := ho 4 (by decide) (by decide)
    have e5 : p.secret = ⟨#[]⟩ := ho 5 (by decide) (by decide)
    have e6 : p.addrs = [] := ho 6 (by decide) (by decide)
    have e7 : p.key = ⟨#[]⟩ := ho 7 (by decide) (by decide)
    obtain ⟨a0, a1, a2, a3, a4, a5, a6, a7⟩ := p
    simp only at e1 e2 e4 e5 e6 e7
    subst e1; subst e2; subst e4; subst e5; subst e6; subst e7
    rfl
  · show takes (Pl.one [0, 4, 5]) (p.fds 0 ++ (p.fds 4 ++ (p.fds 5 ++ []))) Pl.zero = some p
    refine (takes_next hf (i := 0) (by decide) (by rfl) _).trans ?_
    refine (takes_next hf (i := 4) (by decide) (by rfl) _).trans ?_
    refine (takes_next hf (i := 5) (by decide) (by rfl) _).trans ?_
    have e1 : p.port = 0 := ho 1 (by decide) (by decide)
    have e2 : p.route = ⟨#[]⟩ := ho 2 (by decide) (by decide)
    have e3 : p.rules = [] := ho 3 (by decide) (by decide)
    have e6 : p.addrs = [] := ho 6 (by decide) (by decide)
    have e7 : p.key = ⟨#[]⟩ := ho 7 (by decide) (by decide)
    obtain ⟨a0, a1, a2, a3, a4, a5, a6, a7⟩ := p
    simp only at e1 e2 e3 e6 e7
    subst e1; subst e2; subst e3; subst e6; subst e7
    rfl
  · show takes (Pl.one [0, 6]) (p.fds 0 ++ (p.fds 6 ++ [])) Pl.zero = some p
    refine (takes_next hf (i := 0) (by decide) (by rfl) _).trans ?_
    refine (takes_next hf (i := 6) (by decide) (by rfl) _).trans ?_
    have e1 : p.port = 0 := ho 1 (by decide) (by decide)
    have e2 : p.route = ⟨#[]⟩ := ho 2 (by decide) (by decide)
    have e3 : p.rules = [] := ho 3 (by decide) (by decide)
    have e4 : p.policy = 0 := ho 4 (by decide) (by decide)
    have e5 : p.secret = ⟨#[]⟩ := ho 5 (by decide) (by decide)
    have e7 : p.key = ⟨#[]⟩ := ho 7 (by decide) (by decide)
    obtain ⟨a0, a1, a2, a3, a4, a5, a6, a7⟩ := p
    simp only at e1 e2 e3 e4 e5 e7
    subst e1; subst e2; subst e3; subst e4; subst e5; subst e7
    rfl
  · show takes (Pl.one [0, 7]) (p.fds 0 ++ (p.fds 7 ++ [])) Pl.zero = some p
    refine (takes_next hf (i := 0) (by decide) (by rfl) _).trans ?_
    refine (takes_next hf (i := 7) (by decide) (by rfl) _).trans ?_
    have e1 : p.port = 0 := ho 1 (by decide) (by decide)
    have e2 : p.route = ⟨#[]⟩ := ho 2 (by decide) (by decide)
    have e3 : p.rules = [] := ho 3 (by decide) (by decide)
    have e4 : p.policy = 0 := ho 4 (by decide) (by decide)
    have e5 : p.secret = ⟨#[]⟩ := ho 5 (by decide) (by decide)
    have e6 : p.addrs = [] := ho 6 (by decide) (by decide)
    obtain ⟨a0, a1, a2, a3, a4, a5, a6, a7⟩ := p
    simp only at e1 e2 e3 e4 e5 e6
    subst e1; subst e2; subst e3; subst e4; subst e5; subst e6
    rfl
theorem getOf_own {k : Int} {p : Pl} (hk : (hasOf k).2 = true) (hf : Fits p) (ho : OnlyOf k p) : Pl.getOf k (p.puts (hasI k)) = some p := by
  rw [getOf_ps hk (Pl.puts_ps hf (hasI k)), takes_own hk hf ho]
theorem getOf_then {k : Int} {p : Pl} (hk : (hasOf k).2 = true) (hf : Fits p) (ho : OnlyOf k p) {l : List UInt8} {fs : List Fd} (h : Ps l fs) : Pl.getOf k (p.puts (hasI k) ++ l) = takes (Pl.one (hasI k)) fs p := by
  rw [getOf_ps hk ((Pl.puts_ps hf (hasI k)).app h), takes_app, takes_own hk hf ho]; rfl
theorem has_apart {k kind : Int} (hk : (hasOf k).2 = true) (hkind : (hasOf kind).2 = true) (hne : k ≠ kind) : hasI kind = 0 :: (hasI kind).tail ∧ 0 ∈ hasI k ∧ (∀ i ∈ (hasI kind).tail, i ∉ hasI k) ∧ (∀ i ∈ hasNotI k, 1 ≤ i ∧ i ≤ 7 ∧ i ∉ hasI k) ∧ ∀ i, i < 8 → 1 ≤ i → i ∉ hasNotI k → i ∉ hasI kind := by
  rcases hasOf_cases hk with rfl | rfl | rfl | rfl | rfl <;> rcases hasOf_cases hkind with rfl | rfl | rfl | rfl | rfl <;> first | exact absurd rfl hne | decide
theorem getOf_other {k kind : Int} {p : Pl} (hk : (hasOf k).2 = true) (hkind : (hasOf kind).2 = true) (hne : k ≠ kind) (hf : Fits p) : Pl.getOf k (p.puts (hasI kind)) = some (bareP p.name) := by
  obtain ⟨h1, h2, h3, _⟩ := has_apart hk hkind hne
  rw [getOf_ps hk (Pl.puts_ps hf (hasI kind)), h1, List.flatMap_cons]
  refine (takes_next hf (i := 0) h2 (by rfl) _).trans ?_
  refine takes_miss fun f hfm j hj e => ?_
  obtain ⟨i, hi, hfi⟩ := List.mem_flatMap.1 hfm
  have := Pl.fds_num f hfi
  obtain rfl : j = i := by omega
  exact h3 j hi hj

theorem put_bare {p : Pl} {i : Nat} (h : p.bareAt i) : p.put i = [] := by
  match i, h with
  | 0, h => have h : p.name = ⟨#[]⟩ := h; simp only [Pl.put, h]; rfl
  | 1, h => have h : p.port = 0 := h; simp only [Pl.put, h]; rfl
  | 2, h => have h : p.route = ⟨#[]⟩ := h; simp only [Pl.put, h]; rfl
  | 3, h => have h : p.rules = [] := h; simp only [Pl.put, h]; rfl
  | 4, h => have h : p.policy = 0 := h; simp only [Pl.put, h]; rfl
  | 5, h => have h : p.secret = ⟨#[]⟩ := h; simp only [Pl.put, h]; rfl
  | 6, h => have h : p.addrs = [] := h; simp only [Pl.put, h]; rfl
  | 7, h => have h : p.key = ⟨#[]⟩ := h; simp only [Pl.put, h]; rfl
  | i + 8, _ => rfl
theorem textL_ne {num : Int} {s : ByteArray} (h : numB num = true) : textL num s ≠ [] := by
  intro e
  have h1 := (vnt_len (num.toNat * 8 + 2)).1
  have h2 := congrArg List.length e
  simp [textL, h, putL] at h2
  rw [h2.1] at h1
  simp at h1
theorem txtL_bare {num : Int} {s : ByteArray} (hn : numB num = true) (h : txtL num s = []) : s = ⟨#[]⟩ := by
  unfold txtL at h
  split at h
  · rename_i h0; exact size_nil h0
  · exact absurd h (textL_ne hn)
theorem nmbL_bare {num : Int} {n : Nat} (hn : numB num = true) (h : nmbL num n = []) : n = 0 := by
  unfold nmbL at h
  split at h
  · assumption
  · exfalso
    have h1 := (vnt_len (num.toNat * 8)).1
    have h2 := congrArg List.length h
    simp [numberL, hn, putL] at h2
    rw [h2.1] at h1
    simp at h1
theorem bare_put {p : Pl} {i : Nat} (h : p.put i = []) : p.bareAt i := by
  match i, h with
  | 0, h => exact txtL_bare (num := 1) (by decide) h
  | 1, h => exact nmbL_bare (num := 2) (by decide) h
  | 2, h => exact txtL_bare (num := 3) (by decide) h
  | 3, h =>
    show p.rules = []
    cases hr : p.rules with
    | nil => rfl
    | cons r rs =>
      exfalso
      simp only [Pl.put, hr, List.flatMap_cons, List.append_eq_nil_iff] at h
      exact textL_ne (by decide) h.1
  | 4, h => exact nmbL_bare (num := 5) (by decide) h
  | 5, h => exact txtL_bare (num := 6) (by decide) h
  | 6, h =>
    show p.addrs = []
    cases hr : p.addrs with
    | nil => rfl
    | cons r rs =>
      exfalso
      simp only [Pl.put, hr, List.flatMap_cons, List.append_eq_nil_iff] at h
      exact textL_ne (by decide) h.1
  | 7, h => exact txtL_bare (num := 8) (by decide) h
  | i + 8, _ => exact trivial
theorem puts_nil_iff {p : Pl} {is : List Nat} : p.puts is = [] ↔ ∀ i ∈ is, p.put i = [] := by
  simp [Pl.puts, List.flatMap_eq_nil_iff]
theorem putOf_own {k : Int} {p : Pl} (hk : (hasOf k).2 = true) (hf : Fits p) (ho : OnlyOf k p) : p.putOf k = (⟨(p.puts (hasI k)).toArray⟩, true) := by
  refine plPut_right hk hf.rules hf.addrs (puts_nil_iff.2 fun i hi => put_bare (ho i ?_ ?_))
  · revert hi; rcases hasOf_cases hk with rfl | rfl | rfl | rfl | rfl <;> revert i <;> decide
  · revert hi; rcases hasOf_cases hk with rfl | rfl | rfl | rfl | rfl <;> revert i <;> decide
theorem toList_bare {s : ByteArray} (h : s.toList = []) : s = ⟨#[]⟩ := by
  rw [ByteArray.toList_eq] at h
  refine size_nil ?_
  have := congrArg List.length h
  simpa using this
theorem bare_all {p : Pl} (h : ∀ i, 1 ≤ i → p.bareAt i) : p = bareP p.name := by
  have e1 : p.port = 0 := h 1 (by decide)
  have e2 : p.route = ⟨#[]⟩ := h 2 (by decide)
  have e3 : p.rules = [] := h 3 (by decide)
  have e4 : p.policy = 0 := h 4 (by decide)
  have e5 : p.secret = ⟨#[]⟩ := h 5 (by decide)
  have e6 : p.addrs = [] := h 6 (by decide)
  have e7 : p.key = ⟨#[]⟩ := h 7 (by decide)
  obtain ⟨a0, a1, a2, a3, a4, a5, a6, a7⟩ := p
  simp only at e1 e2 e3 e4 e5 e6 e7
  subst e1; subst e2; subst e3; subst e4; subst e5; subst e6; subst e7
  rfl
end Go.Proofs.YtngceccpebdgmaaGreatDoor
