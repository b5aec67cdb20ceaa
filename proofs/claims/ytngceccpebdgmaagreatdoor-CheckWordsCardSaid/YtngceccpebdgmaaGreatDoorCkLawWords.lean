/- CheckWords: the walk. -/
import Derived.Test.YtngceccpebdgmaaGreatDoorCkKinds
import Derived.Test.YtngceccpebdgmaaGreatDoorCkSay
import Derived.Test.YtngceccpebdgmaaGreatDoorPlTripA
import Derived.Laws.OwnMore
namespace Go.Proofs.YtngceccpebdgmaaGreatDoor.ckWords
open Go.RowKit Go.Shelf

/-- A small payload. -/
structure Sm (p : Pl) : Prop where
  name : p.name.size ≤ 3
  port : p.port < 2 ^ 64
  route : p.route.size ≤ 3
  rules : p.rules.length ≤ 3
  rule : ∀ r ∈ p.rules, r.pre.size ≤ 3 ∧ r.clu.size ≤ 3
  policy : p.policy < 2 ^ 64
  secret : p.secret.size ≤ 3
  addrs : p.addrs.length ≤ 3
  addr : ∀ a ∈ p.addrs, a.host.size ≤ 3 ∧ a.port < 2 ^ 64 ∧ a.wt < 2 ^ 64
  key : p.key.size ≤ 16
theorem Sm.fits {p : Pl} (h : Sm p) : Fits p :=
  ⟨by have := h.name; omega, h.port, by have := h.route; omega, fun r hr => by have := Rl.all_le r; have := h.rule r hr; omega, h.policy, by have := h.secret; omega,
    fun a ha => ⟨by have := Ad.all_le a; have := h.addr a ha; omega, (h.addr a ha).2⟩, by have := h.key; omega, by have := h.rules; omega, by have := h.addrs; omega⟩
theorem Sm.ok {p : Pl} (h : Sm p) : PlOk p := ⟨h.port, h.policy, by have := h.rules; omega, by have := h.addrs; omega, fun r hr => (h.addr r hr).2⟩
theorem Sm.put {p : Pl} (h : Sm p) (i : Nat) : (p.put i).length ≤ 260 := by
  match i with
  | 0 => have := txtL_le 1 p.name; have := h.name; simp only [Pl.put]; omega
  | 1 => have := nmbL_le 2 p.port; simp only [Pl.put]; omega
  | 2 => have := txtL_le 3 p.route; have := h.route; simp only [Pl.put]; omega
  | 3 =>
    have := flat_len (f := fun r : Rl => textL 4 ⟨r.all.toArray⟩) (B := 70) (xs := p.rules) fun r hr => by
      have h1 := textL_le 4 ⟨r.all.toArray⟩
      have h2 := Rl.all_le r
      have h3 := h.rule r hr
      have h4 : (⟨r.all.toArray⟩ : ByteArray).size = r.all.length := List.size_toArray ..
      omega
    have := h.rules
    simp only [Pl.put]; omega
  | 4 => have := nmbL_le 5 p.policy; simp only [Pl.put]; omega
  | 5 => have := txtL_le 6 p.secret; have := h.secret; simp only [Pl.put]; omega
  | 6 =>
    have := flat_len (f := fun r : Ad => textL 7 ⟨r.all.toArray⟩) (B := 85) (xs := p.addrs) fun r hr => by
      have h1 := textL_le 7 ⟨r.all.toArray⟩
      have h2 := Ad.all_le r
      have h3 := h.addr r hr
      have h4 : (⟨r.all.toArray⟩ : ByteArray).size = r.all.length := List.size_toArray ..
      omega
    have := h.addrs
    simp only [Pl.put]; omega
  | 7 => have := txtL_le 8 p.key; have := h.key; simp only [Pl.put]; omega
  | i + 8 => simp [Pl.put]
theorem Sm.puts {p : Pl} (h : Sm p) (l : List Nat) : (p.puts l).length ≤ l.length * 260 := by
  unfold Pl.puts
  exact flat_len fun i _ => h.put i
theorem Sm.ads {p : Pl} (h : Sm p) : AdsOk p := fun x hx => ⟨by have := h.addr x hx; unfold maxLen; omega, (h.addr x hx).2⟩
theorem hasI_len (k : Int) : (hasI k).length ≤ 3 := by
  unfold hasI; repeat' split
  all_goals decide
theorem hasNotI_len (k : Int) : (hasNotI k).length ≤ 8 := by
  unfold hasNotI; repeat' split
  all_goals decide

/-- Put, then looked at. -/
theorem pb {k : Int} {p : Pl} {a3 a6 : Option Addr} {c3 c6 : Nat} {X : ByteArray} (hk : (hasOf k).2 = true) (hsm : Sm p) (ho : OnlyOf k p)
    (hX : ∀ S : ByteArray, S.size ≤ 1024 → Pl.getOf k S.data.toList = some p → ∀ (b : Addr) (w : World), Gv b w → Ge w → Calls Tryz.prog 22 #[kyV k ⟨#[110]⟩, .string S] w fun e w' => e = .returned (.string X) ∧ Below w.heap.size w w') :
    ∃ S : ByteArray, (∀ (b : Addr) (w : World), Gv b w → RulesAt w a3 p.rules → AddrsAt w a6 p.addrs → Calls Tryz.prog 24 #[.int .i64 k, plV p a3 c3 a6 c6] w fun e w' => e = .returned (.tuple #[.string S, .bool true]) ∧ Below w.heap.size w w') ∧
      (∀ (b : Addr) (w : World), Gv b w → Ge w → Calls Tryz.prog 22 #[kyV k ⟨#[110]⟩, .string S] w fun e w' => e = .returned (.string X) ∧ Below w.heap.size w w') := by
  have h1 := hsm.puts (hasI k)
  have h2 := hsm.puts (hasNotI k)
  have h3 := hasI_len k
  have h4 := hasNotI_len k
  refine ⟨⟨(p.puts (hasI k)).toArray⟩, fun b w hg h3' h6' => ?_, hX _ ?_ ?_⟩
  · have h := put_any' k p a3 a6 c3 c6 b w hg h3' h6' hsm.ok (by omega) (fun _ _ => by omega)
    rw [putOf_own hk hsm.fits ho] at h
    exact h
  · rw [show (⟨(p.puts (hasI k)).toArray⟩ : ByteArray).size = (p.puts (hasI k)).length from List.size_toArray ..]; omega
  · exact getOf_own hk hsm.fits ho
theorem rules_new (W0 : World) (rs : List Rl) (cs : Array Value) (t : TypeId) (hc : cs.toList = rlCells rs) : RulesAt (W0.alloc (.cells cs t)) (some ⟨W0.heap.size, 0, none⟩) rs := by
  intro i r hi
  obtain ⟨e0, e1⟩ := rlCells_get rs i r hi
  refine ⟨_, _, rfl, by simp, ?_, ?_⟩
  · rw [Nat.zero_add, new_cell, ← Array.getElem?_toList, hc]; exact e0
  · rw [Nat.zero_add, new_cell, ← Array.getElem?_toList, hc]; exact e1
theorem addrs_new (W0 : World) (rs : List Ad) (cs : Array Value) (t : TypeId) (hc : cs.toList = adCells rs) : AddrsAt (W0.alloc (.cells cs t)) (some ⟨W0.heap.size, 0, none⟩) rs := by
  intro i r hi
  obtain ⟨e0, e1, e2⟩ := adCells_get rs i r hi
  refine ⟨_, _, rfl, by simp, ?_, ?_, ?_⟩
  · rw [Nat.zero_add, new_cell, ← Array.getElem?_toList, hc]; exact e0
  · rw [Nat.zero_add, new_cell, ← Array.getElem?_toList, hc]; exact e1
  · rw [Nat.zero_add, new_cell, ← Array.getElem?_toList, hc]; exact e2
theorem no_rs (w : World) (a : Option Addr) : RulesAt w a [] := fun i r h => by simp at h
theorem no_as (w : World) (a : Option Addr) : AddrsAt w a [] := fun i r h => by simp at h
theorem make_z (q : IntKind) (k : Nat) (hk : k ≤ 16) : ∃ cs : Array Value, cs.toList = List.replicate k (Value.int .u8 0) ∧ ∀ W : World, (Instr.makeSlice 58 (.int q (k : Int)) (.int q (k : Int))).run Tryz.prog W = .ok (.slice (some ⟨W.heap.size, 0, none⟩) k k) (W.alloc (.cells cs 5)) := by
  have hB : (Tryz.prog.info? 5).map (fun i => (i.zero, i.size, i.bytes)) = some (some (.int .u8 0), 1, 1) := by kernel_rfl
  obtain ⟨i, hi, hz⟩ := Option.map_eq_some_iff.1 hB
  simp only [Prod.mk.injEq] at hz
  obtain ⟨hz0, hz1, hz2⟩ := hz
  refine ⟨madeCells #[Value.int .u8 0] (k * i.size), by rw [toList_madeCells_one, hz1, Nat.mul_one], fun W => ?_⟩
  have h := run_makeSlice W (P := Tryz.prog) 58 5 i (.int .u8 0) Tryz.underlying58 hi hz0 q q (k : Int) (k : Int) (by omega) (Int.le_refl _) (by rw [hz1]; omega) (by rw [hz2]; omega) (by omega)
  simpa [Value.cells] using h
theorem conv_z {k g : Nat} {cs : Array Value} {W : World} (hc : cs.toList = List.replicate k (Value.int .u8 0)) (hg : W.heap[g]? = some (.cells cs 5 (0, 0))) :
    (convert 58 9 (.slice (some ⟨g, 0, none⟩) k k)).run Tryz.prog W = .ok (.string ⟨(List.replicate k (0 : UInt8)).toArray⟩) W := by
  have hl : (List.replicate k (0 : UInt8)).length = k := List.length_replicate
  have h := run_convert_bytes_back (P := Tryz.prog) W 58 9 5 ⟨g, 0, none⟩ k (List.replicate k 0) Tryz.underlying58 Tryz.underlying5 Tryz.underlying9 (fun j hj => by
    have e : (⟨g, 0, none⟩ : Addr).add j = ⟨g, j, none⟩ := by unfold Addr.add; split <;> simp_all
    rw [e, Lib.cell_of_heap hg, ← Array.getElem?_toList, hc, List.getElem?_eq_getElem (by rw [List.length_replicate]; rw [hl] at hj; exact hj), List.getElem_replicate, List.getElem_replicate]
    rfl)
  rw [hl] at h
  exact h
theorem z_size (k : Nat) : (⟨(List.replicate k (0 : UInt8)).toArray⟩ : ByteArray).size = k := (List.size_toArray ..).trans List.length_replicate

def p0 (N1 : Nat) : Pl := ⟨⟨#[110]⟩, N1, ⟨#[114]⟩, [], 0, ⟨#[]⟩, [], ⟨#[]⟩⟩
theorem sm0 (N1 : Nat) (hN : 65536 ≤ N1) (hN2 : N1 < 2000000) : Sm (p0 N1) := by
  refine ⟨?_, ?_, ?_, ?_, ?_, ?_, ?_, ?_, ?_, ?_⟩
  all_goals (try (first | (intro x hx; simp [p0] at hx; rcases hx with rfl | rfl | rfl <;> (refine ⟨?_, ?_⟩ <;> decide)) | skip))
  all_goals (try (first | (simp only [p0]; decide) | (simp only [p0]; omega) | skip))
theorem only0 (N1 : Nat) : OnlyOf 1 (p0 N1) := by
  intro i h1 h2
  match i, h1, h2 with
  | 1, _, h2 => first | rfl | exact absurd (by decide) h2
  | 2, _, h2 => first | rfl | exact absurd (by decide) h2
  | 3, _, h2 => first | rfl | exact absurd (by decide) h2
  | 4, _, h2 => first | rfl | exact absurd (by decide) h2
  | 5, _, h2 => first | rfl | exact absurd (by decide) h2
  | 6, _, h2 => first | rfl | exact absurd (by decide) h2
  | 7, _, h2 => first | rfl | exact absurd (by decide) h2
  | i + 8, _, _ => trivial

def p1 : Pl := ⟨⟨#[110]⟩, 80, ⟨#[82]⟩, [], 0, ⟨#[]⟩, [], ⟨#[]⟩⟩
theorem sm1 : Sm (p1) := by
  refine ⟨?_, ?_, ?_, ?_, ?_, ?_, ?_, ?_, ?_, ?_⟩
  all_goals (try (first | (intro x hx; simp [p1] at hx; rcases hx with rfl | rfl | rfl <;> (refine ⟨?_, ?_⟩ <;> decide)) | skip))
  all_goals (try (first | (simp only [p1]; decide) | (simp only [p1]; omega) | skip))
theorem only1 : OnlyOf 1 (p1) := by
  intro i h1 h2
  match i, h1, h2 with
  | 1, _, h2 => first | rfl | exact absurd (by decide) h2
  | 2, _, h2 => first | rfl | exact absurd (by decide) h2
  | 3, _, h2 => first | rfl | exact absurd (by decide) h2
  | 4, _, h2 => first | rfl | exact absurd (by decide) h2
  | 5, _, h2 => first | rfl | exact absurd (by decide) h2
  | 6, _, h2 => first | rfl | exact absurd (by decide) h2
  | 7, _, h2 => first | rfl | exact absurd (by decide) h2
  | i + 8, _, _ => trivial

def p2 : Pl := ⟨⟨#[110]⟩, 0, ⟨#[]⟩, [], 0, ⟨#[]⟩, [], ⟨#[]⟩⟩
theorem sm2 : Sm (p2) := by
  refine ⟨?_, ?_, ?_, ?_, ?_, ?_, ?_, ?_, ?_, ?_⟩
  all_goals (try (first | (intro x hx; simp [p2] at hx; rcases hx with rfl | rfl | rfl <;> (refine ⟨?_, ?_⟩ <;> decide)) | skip))
  all_goals (try (first | (simp only [p2]; decide) | (simp only [p2]; omega) | skip))
theorem only2 : OnlyOf 2 (p2) := by
  intro i h1 h2
  match i, h1, h2 with
  | 1, _, h2 => first | rfl | exact absurd (by decide) h2
  | 2, _, h2 => first | rfl | exact absurd (by decide) h2
  | 3, _, h2 => first | rfl | exact absurd (by decide) h2
  | 4, _, h2 => first | rfl | exact absurd (by decide) h2
  | 5, _, h2 => first | rfl | exact absurd (by decide) h2
  | 6, _, h2 => first | rfl | exact absurd (by decide) h2
  | 7, _, h2 => first | rfl | exact absurd (by decide) h2
  | i + 8, _, _ => trivial

def p3 : Pl := ⟨⟨#[110]⟩, 0, ⟨#[]⟩, [⟨⟨#[47, 120]⟩, ⟨#[99]⟩⟩, ⟨⟨#[120]⟩, ⟨#[99]⟩⟩], 0, ⟨#[]⟩, [], ⟨#[]⟩⟩
theorem sm3 : Sm (p3) := by
  refine ⟨?_, ?_, ?_, ?_, ?_, ?_, ?_, ?_, ?_, ?_⟩
  all_goals (try (first | (intro x hx; simp [p3] at hx; rcases hx with rfl | rfl | rfl <;> (refine ⟨?_, ?_⟩ <;> decide)) | skip))
  all_goals (try (first | (simp only [p3]; decide) | (simp only [p3]; omega) | skip))
theorem only3 : OnlyOf 2 (p3) := by
  intro i h1 h2
  match i, h1, h2 with
  | 1, _, h2 => first | rfl | exact absurd (by decide) h2
  | 2, _, h2 => first | rfl | exact absurd (by decide) h2
  | 3, _, h2 => first | rfl | exact absurd (by decide) h2
  | 4, _, h2 => first | rfl | exact absurd (by decide) h2
  | 5, _, h2 => first | rfl | exact absurd (by decide) h2
  | 6, _, h2 => first | rfl | exact absurd (by decide) h2
  | 7, _, h2 => first | rfl | exact absurd (by decide) h2
  | i + 8, _, _ => trivial

def p4 : Pl := ⟨⟨#[110]⟩, 0, ⟨#[]⟩, [⟨⟨#[47, 120]⟩, ⟨#[99]⟩⟩, ⟨⟨#[47, 121]⟩, ⟨#[99]⟩⟩, ⟨⟨#[47, 120, 121]⟩, ⟨#[99]⟩⟩], 0, ⟨#[]⟩, [], ⟨#[]⟩⟩
theorem sm4 : Sm (p4) := by
  refine ⟨?_, ?_, ?_, ?_, ?_, ?_, ?_, ?_, ?_, ?_⟩
  all_goals (try (first | (intro x hx; simp [p4] at hx; rcases hx with rfl | rfl | rfl <;> (refine ⟨?_, ?_⟩ <;> decide)) | skip))
  all_goals (try (first | (simp only [p4]; decide) | (simp only [p4]; omega) | skip))
theorem only4 : OnlyOf 2 (p4) := by
  intro i h1 h2
  match i, h1, h2 with
  | 1, _, h2 => first | rfl | exact absurd (by decide) h2
  | 2, _, h2 => first | rfl | exact absurd (by decide) h2
  | 3, _, h2 => first | rfl | exact absurd (by decide) h2
  | 4, _, h2 => first | rfl | exact absurd (by decide) h2
  | 5, _, h2 => first | rfl | exact absurd (by decide) h2
  | 6, _, h2 => first | rfl | exact absurd (by decide) h2
  | 7, _, h2 => first | rfl | exact absurd (by decide) h2
  | i + 8, _, _ => trivial

def p5 (N1 : Nat) : Pl := ⟨⟨#[110]⟩, 0, ⟨#[]⟩, [], N1, ⟨#[]⟩, [], ⟨#[]⟩⟩
theorem sm5 (N1 : Nat) (hN : 3 ≤ N1) (hN2 : N1 < 2000) : Sm (p5 N1) := by
  refine ⟨?_, ?_, ?_, ?_, ?_, ?_, ?_, ?_, ?_, ?_⟩
  all_goals (try (first | (intro x hx; simp [p5] at hx; rcases hx with rfl | rfl | rfl <;> (refine ⟨?_, ?_⟩ <;> decide)) | skip))
  all_goals (try (first | (simp only [p5]; decide) | (simp only [p5]; omega) | skip))
theorem only5 (N1 : Nat) : OnlyOf 3 (p5 N1) := by
  intro i h1 h2
  match i, h1, h2 with
  | 1, _, h2 => first | rfl | exact absurd (by decide) h2
  | 2, _, h2 => first | rfl | exact absurd (by decide) h2
  | 3, _, h2 => first | rfl | exact absurd (by decide) h2
  | 4, _, h2 => first | rfl | exact absurd (by decide) h2
  | 5, _, h2 => first | rfl | exact absurd (by decide) h2
  | 6, _, h2 => first | rfl | exact absurd (by decide) h2
  | 7, _, h2 => first | rfl | exact absurd (by decide) h2
  | i + 8, _, _ => trivial

def p6 (N1 : Nat) : Pl := ⟨⟨#[110]⟩, 0, ⟨#[]⟩, [], N1, ⟨#[83]⟩, [], ⟨#[]⟩⟩
theorem sm6 (N1 : Nat) (hN : 0 ≤ N1) (hN2 : N1 < 3) : Sm (p6 N1) := by
  refine ⟨?_, ?_, ?_, ?_, ?_, ?_, ?_, ?_, ?_, ?_⟩
  all_goals (try (first | (intro x hx; simp [p6] at hx; rcases hx with rfl | rfl | rfl <;> (refine ⟨?_, ?_⟩ <;> decide)) | skip))
  all_goals (try (first | (simp only [p6]; decide) | (simp only [p6]; omega) | skip))
theorem only6 (N1 : Nat) : OnlyOf 3 (p6 N1) := by
  intro i h1 h2
  match i, h1, h2 with
  | 1, _, h2 => first | rfl | exact absurd (by decide) h2
  | 2, _, h2 => first | rfl | exact absurd (by decide) h2
  | 3, _, h2 => first | rfl | exact absurd (by decide) h2
  | 4, _, h2 => first | rfl | exact absurd (by decide) h2
  | 5, _, h2 => first | rfl | exact absurd (by decide) h2
  | 6, _, h2 => first | rfl | exact absurd (by decide) h2
  | 7, _, h2 => first | rfl | exact absurd (by decide) h2
  | i + 8, _, _ => trivial

def p7 : Pl := ⟨⟨#[110]⟩, 0, ⟨#[]⟩, [], 0, ⟨#[]⟩, [⟨⟨#[104]⟩, 1, 0⟩, ⟨⟨#[104]⟩, 2, 0⟩, ⟨⟨#[104]⟩, 1, 0⟩], ⟨#[]⟩⟩
theorem sm7 : Sm (p7) := by
  refine ⟨?_, ?_, ?_, ?_, ?_, ?_, ?_, ?_, ?_, ?_⟩
  all_goals (try (first | (intro x hx; simp [p7] at hx; rcases hx with rfl | rfl | rfl <;> (refine ⟨?_, ?_⟩ <;> decide)) | skip))
  all_goals (try (first | (simp only [p7]; decide) | (simp only [p7]; omega) | skip))
theorem only7 : OnlyOf 4 (p7) := by
  intro i h1 h2
  match i, h1, h2 with
  | 1, _, h2 => first | rfl | exact absurd (by decide) h2
  | 2, _, h2 => first | rfl | exact absurd (by decide) h2
  | 3, _, h2 => first | rfl | exact absurd (by decide) h2
  | 4, _, h2 => first | rfl | exact absurd (by decide) h2
  | 5, _, h2 => first | rfl | exact absurd (by decide) h2
  | 6, _, h2 => first | rfl | exact absurd (by decide) h2
  | 7, _, h2 => first | rfl | exact absurd (by decide) h2
  | i + 8, _, _ => trivial

def p8 (N1 : Nat) : Pl := ⟨⟨#[110]⟩, 0, ⟨#[]⟩, [], 0, ⟨#[]⟩, [⟨⟨#[104]⟩, 1, 4294967295⟩, ⟨⟨#[104]⟩, 2, N1⟩], ⟨#[]⟩⟩
theorem sm8 (N1 : Nat) (hN : 1 ≤ N1) (hN2 : N1 < 2000) : Sm (p8 N1) := by
  refine ⟨?_, ?_, ?_, ?_, ?_, ?_, ?_, ?_, ?_, ?_⟩
  all_goals (try (first | (intro x hx; simp [p8] at hx; rcases hx with rfl | rfl | rfl <;> (refine ⟨?_, ?_⟩ <;> decide)) | skip))
  all_goals (try (first | (simp only [p8]; decide) | (simp only [p8]; omega) | skip))
  · simp [p8]
  · intro x hx
    simp only [p8, List.mem_cons, List.not_mem_nil, or_false] at hx
    rcases hx with rfl | rfl
    · exact ⟨show (1 : Nat) ≤ 3 by decide, show (1 : Nat) < 2 ^ 64 by decide, show (4294967295 : Nat) < 2 ^ 64 by decide⟩
    · exact ⟨show (1 : Nat) ≤ 3 by decide, show (2 : Nat) < 2 ^ 64 by decide, show N1 < 2 ^ 64 by omega⟩
theorem only8 (N1 : Nat) : OnlyOf 4 (p8 N1) := by
  intro i h1 h2
  match i, h1, h2 with
  | 1, _, h2 => first | rfl | exact absurd (by decide) h2
  | 2, _, h2 => first | rfl | exact absurd (by decide) h2
  | 3, _, h2 => first | rfl | exact absurd (by decide) h2
  | 4, _, h2 => first | rfl | exact absurd (by decide) h2
  | 5, _, h2 => first | rfl | exact absurd (by decide) h2
  | 6, _, h2 => first | rfl | exact absurd (by decide) h2
  | 7, _, h2 => first | rfl | exact absurd (by decide) h2
  | i + 8, _, _ => trivial

def p9 (Z : ByteArray) : Pl := ⟨⟨#[110]⟩, 0, ⟨#[]⟩, [], 0, ⟨#[]⟩, [], Z⟩
theorem sm9 (Z : ByteArray) (hN : Z.size < 16) : Sm (p9 Z) := by
  refine ⟨?_, ?_, ?_, ?_, ?_, ?_, ?_, ?_, ?_, ?_⟩
  all_goals (try (first | (intro x hx; simp [p9] at hx; rcases hx with rfl | rfl | rfl <;> (refine ⟨?_, ?_⟩ <;> decide)) | skip))
  all_goals (try (first | (simp only [p9]; decide) | (simp only [p9]; omega) | skip))
theorem only9 (Z : ByteArray) : OnlyOf 5 (p9 Z) := by
  intro i h1 h2
  match i, h1, h2 with
  | 1, _, h2 => first | rfl | exact absurd (by decide) h2
  | 2, _, h2 => first | rfl | exact absurd (by decide) h2
  | 3, _, h2 => first | rfl | exact absurd (by decide) h2
  | 4, _, h2 => first | rfl | exact absurd (by decide) h2
  | 5, _, h2 => first | rfl | exact absurd (by decide) h2
  | 6, _, h2 => first | rfl | exact absurd (by decide) h2
  | 7, _, h2 => first | rfl | exact absurd (by decide) h2
  | i + 8, _, _ => trivial

def p10 (Z : ByteArray) : Pl := ⟨⟨#[109]⟩, 0, ⟨#[]⟩, [], 0, ⟨#[]⟩, [], Z⟩
theorem sm10 (Z : ByteArray) (hN : Z.size = 16) : Sm (p10 Z) := by
  refine ⟨?_, ?_, ?_, ?_, ?_, ?_, ?_, ?_, ?_, ?_⟩
  all_goals (try (first | (intro x hx; simp [p10] at hx; rcases hx with rfl | rfl | rfl <;> (refine ⟨?_, ?_⟩ <;> decide)) | skip))
  all_goals (try (first | (simp only [p10]; decide) | (simp only [p10]; omega) | skip))
theorem only10 (Z : ByteArray) : OnlyOf 5 (p10 Z) := by
  intro i h1 h2
  match i, h1, h2 with
  | 1, _, h2 => first | rfl | exact absurd (by decide) h2
  | 2, _, h2 => first | rfl | exact absurd (by decide) h2
  | 3, _, h2 => first | rfl | exact absurd (by decide) h2
  | 4, _, h2 => first | rfl | exact absurd (by decide) h2
  | 5, _, h2 => first | rfl | exact absurd (by decide) h2
  | 6, _, h2 => first | rfl | exact absurd (by decide) h2
  | 7, _, h2 => first | rfl | exact absurd (by decide) h2
  | i + 8, _, _ => trivial

def p11 : Pl := ⟨⟨#[110]⟩, 80, ⟨#[114]⟩, [], 0, ⟨#[]⟩, [], ⟨#[]⟩⟩
theorem sm11 : Sm (p11) := by
  refine ⟨?_, ?_, ?_, ?_, ?_, ?_, ?_, ?_, ?_, ?_⟩
  all_goals (try (first | (intro x hx; simp [p11] at hx; rcases hx with rfl | rfl | rfl <;> (refine ⟨?_, ?_⟩ <;> decide)) | skip))
  all_goals (try (first | (simp only [p11]; decide) | (simp only [p11]; omega) | skip))
theorem only11 : OnlyOf 1 (p11) := by
  intro i h1 h2
  match i, h1, h2 with
  | 1, _, h2 => first | rfl | exact absurd (by decide) h2
  | 2, _, h2 => first | rfl | exact absurd (by decide) h2
  | 3, _, h2 => first | rfl | exact absurd (by decide) h2
  | 4, _, h2 => first | rfl | exact absurd (by decide) h2
  | 5, _, h2 => first | rfl | exact absurd (by decide) h2
  | 6, _, h2 => first | rfl | exact absurd (by decide) h2
  | 7, _, h2 => first | rfl | exact absurd (by decide) h2
  | i + 8, _, _ => trivial
theorem wr0 (N1 : Nat) (hN : 65536 ≤ N1) (hN2 : N1 < 2000000) : (wPort (p0 N1)).or (wRoute (p0 N1)) = .word ⟨#[112, 111, 114, 116]⟩ := by
  have h1 : portB (N1 : Int) = false := by unfold portB; simp; omega
  unfold wPort; simp only [p0]; rw [h1]; rfl
theorem body0 (N1 : Nat) (hN : 65536 ≤ N1) (hN2 : N1 < 2000000) (S : ByteArray) (hS : S.size ≤ 1024) (hG : Pl.getOf 1 S.data.toList = some (p0 N1)) (b : Addr) (w : World) (hg : Gv b w) (hge : Ge w) : Calls Tryz.prog 22 #[kyV 1 ⟨#[110]⟩, .string S] w fun e w' => e = .returned (.string ⟨#[112, 111, 114, 116]⟩) ∧ Below w.heap.size w w' :=
  body_word 1 ⟨#[110]⟩ S ⟨#[112, 111, 114, 116]⟩ b w hg hge (fun w hg => (wrong_1 ⟨#[110]⟩ S (p0 N1) b w hg hS hG (by kernel_rfl)).mono fun e w' h => ⟨by rw [h.1, wr0 N1 hN hN2], h.2⟩)
set_option maxRecDepth 100000 in
set_option maxHeartbeats 4000000 in
theorem walk_0 (h n : Nat) (b : Addr) (w : World) (hg : Gv b w) (hge : Ge w) (hh : (h : Int) % 12 = 0) (_hn : n < 2 ^ 64) :
    Calls Tryz.prog 6 #[.int .u8 (h : Int), .int .u64 (n : Int)] w fun e w' => e = .returned (.bool true) ∧ Below w.heap.size w w' := by
  have HG := Lib.hid hg
  have HE := Lib.hid hge
  clear hg hge
  have hh2 : (h : Int).tmod 12 = 0 := by rw [Int.tmod_eq_emod_of_nonneg (by omega)]; exact hh
  obtain ⟨m, hm⟩ : ∃ m, n % 1000000 = m := ⟨_, rfl⟩
  have m1 : (n : Int) % 1000000 = (m : Int) := by omega
  have m2 : (n : Int).tmod 1000000 = (m : Int) := by rw [Int.tmod_eq_emod_of_nonneg (by omega)]; omega
  obtain ⟨N1, hN1⟩ : ∃ N1, 65536 + m = N1 := ⟨_, rfl⟩
  have m3 : IntKind.u64.wrap (65536 + (m : Int)) = (N1 : Int) := by rw [← hN1]; simp [IntKind.wrap, IntKind.signed, IntKind.bits]; omega
  have m4 : (65536 + (m : Int)) = (N1 : Int) := by omega
  have hN : 65536 ≤ N1 := by omega
  have hN2 : N1 < 2000000 := by omega
  clear hm hN1
  obtain ⟨S, hput, hbody⟩ := pb (k := 1) (p := (p0 N1)) (a3 := none) (a6 := none) (c3 := 0) (c6 := 0) (X := ⟨#[112, 111, 114, 116]⟩) rfl (sm0 N1 hN hN2) (only0 N1) (body0 N1 hN hN2)
  go_enter Tryz.func6, Tryz.ntmps6
  go_wp2_with fail
  refine (ck_examples b _ HG.out HE.out).mono ?_
  rintro e w1 ⟨rfl, hb⟩
  have HB1 := Lib.hid hb
  clear hb
  obtain ⟨D, hD⟩ : ∃ D, w1.heap.size = D := ⟨_, rfl⟩
  have HPUT := Lib.hid (fun w h1 h3 h6 => (hput b w h1 h3 h6 : Calls Tryz.prog 24 #[.int .i64 1, .agg #[.string ⟨#[110]⟩, .int .u64 (N1 : Int), .string ⟨#[114]⟩, .slice none 0 0, .int .u64 0, .string ⟨#[]⟩, .slice none 0 0, .string ⟨#[]⟩]] w fun e w' => e = .returned (.tuple #[.string S, .bool true]) ∧ Below w.heap.size w w'))
  have HBODY := Lib.hid (hbody b)
  clear hput hbody
  have HD := Lib.hid hD
  clear hD
  go_wp2_with fail
  have HB2 := Lib.hid (HB1.out.alloc HB1.out.size (.cells #[.string ⟨#[110]⟩, .int .u64 (N1 : Int), .string ⟨#[114]⟩, .slice none 0 0, .int .u64 0, .string ⟨#[]⟩, .slice none 0 0, .string ⟨#[]⟩] 36))
  have hp := HPUT.out _ (HG.out.below HB2.out) (no_rs _ _) (no_as _ _)
  refine hp.mono ?_
  clear hp
  rintro e w4 ⟨rfl, hb⟩
  have HB4 := Lib.hid (HB2.out.trans (hb.mono HB2.out.size))
  clear hb
  go_wp2_with fail
  refine (HBODY.out _ (HG.out.below HB4.out) (HE.out.below HB4.out)).mono ?_
  rintro e w5 ⟨rfl, hb⟩
  have HB5 := Lib.hid (HB4.out.trans (hb.mono HB4.out.size))
  clear hb
  go_wp2_with fail
  go_ret
  exact ⟨rfl, HB5.out⟩
theorem wr1 : (wPort (p1)).or (wRoute (p1)) = .word ⟨#[114, 111, 117, 116, 101]⟩ := by kernel_rfl
theorem body1 (S : ByteArray) (hS : S.size ≤ 1024) (hG : Pl.getOf 1 S.data.toList = some (p1)) (b : Addr) (w : World) (hg : Gv b w) (hge : Ge w) : Calls Tryz.prog 22 #[kyV 1 ⟨#[110]⟩, .string S] w fun e w' => e = .returned (.string ⟨#[114, 111, 117, 116, 101]⟩) ∧ Below w.heap.size w w' :=
  body_word 1 ⟨#[110]⟩ S ⟨#[114, 111, 117, 116, 101]⟩ b w hg hge (fun w hg => (wrong_1 ⟨#[110]⟩ S (p1) b w hg hS hG (by kernel_rfl)).mono fun e w' h => ⟨by rw [h.1, wr1], h.2⟩)
set_option maxRecDepth 100000 in
set_option maxHeartbeats 4000000 in
theorem walk_1 (h n : Nat) (b : Addr) (w : World) (hg : Gv b w) (hge : Ge w) (hh : (h : Int) % 12 = 1) (_hn : n < 2 ^ 64) :
    Calls Tryz.prog 6 #[.int .u8 (h : Int), .int .u64 (n : Int)] w fun e w' => e = .returned (.bool true) ∧ Below w.heap.size w w' := by
  have HG := Lib.hid hg
  have HE := Lib.hid hge
  clear hg hge
  have hh2 : (h : Int).tmod 12 = 1 := by rw [Int.tmod_eq_emod_of_nonneg (by omega)]; exact hh
  obtain ⟨S, hput, hbody⟩ := pb (k := 1) (p := (p1)) (a3 := none) (a6 := none) (c3 := 0) (c6 := 0) (X := ⟨#[114, 111, 117, 116, 101]⟩) rfl (sm1) (only1) (body1)
  go_enter Tryz.func6, Tryz.ntmps6
  go_wp2_with fail
  refine (ck_examples b _ HG.out HE.out).mono ?_
  rintro e w1 ⟨rfl, hb⟩
  have HB1 := Lib.hid hb
  clear hb
  obtain ⟨D, hD⟩ : ∃ D, w1.heap.size = D := ⟨_, rfl⟩
  have HPUT := Lib.hid (fun w h1 h3 h6 => (hput b w h1 h3 h6 : Calls Tryz.prog 24 #[.int .i64 1, .agg #[.string ⟨#[110]⟩, .int .u64 80, .string ⟨#[82]⟩, .slice none 0 0, .int .u64 0, .string ⟨#[]⟩, .slice none 0 0, .string ⟨#[]⟩]] w fun e w' => e = .returned (.tuple #[.string S, .bool true]) ∧ Below w.heap.size w w'))
  have HBODY := Lib.hid (hbody b)
  clear hput hbody
  have HD := Lib.hid hD
  clear hD
  go_wp2_with fail
  have HB2 := Lib.hid (HB1.out.alloc HB1.out.size (.cells #[.string ⟨#[110]⟩, .int .u64 80, .string ⟨#[82]⟩, .slice none 0 0, .int .u64 0, .string ⟨#[]⟩, .slice none 0 0, .string ⟨#[]⟩] 36))
  have hp := HPUT.out _ (HG.out.below HB2.out) (no_rs _ _) (no_as _ _)
  refine hp.mono ?_
  clear hp
  rintro e w4 ⟨rfl, hb⟩
  have HB4 := Lib.hid (HB2.out.trans (hb.mono HB2.out.size))
  clear hb
  go_wp2_with fail
  refine (HBODY.out _ (HG.out.below HB4.out) (HE.out.below HB4.out)).mono ?_
  rintro e w5 ⟨rfl, hb⟩
  have HB5 := Lib.hid (HB4.out.trans (hb.mono HB4.out.size))
  clear hb
  go_wp2_with fail
  go_ret
  exact ⟨rfl, HB5.out⟩
theorem wr2 : (wAnyRule (p2)).or (wEachRule (p2)) = .word ⟨#[114, 117, 108, 101, 115]⟩ := by kernel_rfl
theorem body2 (S : ByteArray) (hS : S.size ≤ 1024) (hG : Pl.getOf 2 S.data.toList = some (p2)) (b : Addr) (w : World) (hg : Gv b w) (hge : Ge w) : Calls Tryz.prog 22 #[kyV 2 ⟨#[110]⟩, .string S] w fun e w' => e = .returned (.string ⟨#[114, 117, 108, 101, 115]⟩) ∧ Below w.heap.size w w' :=
  body_word 2 ⟨#[110]⟩ S ⟨#[114, 117, 108, 101, 115]⟩ b w hg hge (fun w hg => (wrong_2 ⟨#[110]⟩ S (p2) b w hg hS hG (by kernel_rfl)).mono fun e w' h => ⟨by rw [h.1, wr2], h.2⟩)
set_option maxRecDepth 100000 in
set_option maxHeartbeats 4000000 in
theorem walk_2 (h n : Nat) (b : Addr) (w : World) (hg : Gv b w) (hge : Ge w) (hh : (h : Int) % 12 = 2) (_hn : n < 2 ^ 64) :
    Calls Tryz.prog 6 #[.int .u8 (h : Int), .int .u64 (n : Int)] w fun e w' => e = .returned (.bool true) ∧ Below w.heap.size w w' := by
  have HG := Lib.hid hg
  have HE := Lib.hid hge
  clear hg hge
  have hh2 : (h : Int).tmod 12 = 2 := by rw [Int.tmod_eq_emod_of_nonneg (by omega)]; exact hh
  obtain ⟨S, hput, hbody⟩ := pb (k := 2) (p := (p2)) (a3 := none) (a6 := none) (c3 := 0) (c6 := 0) (X := ⟨#[114, 117, 108, 101, 115]⟩) rfl (sm2) (only2) (body2)
  go_enter Tryz.func6, Tryz.ntmps6
  go_wp2_with fail
  refine (ck_examples b _ HG.out HE.out).mono ?_
  rintro e w1 ⟨rfl, hb⟩
  have HB1 := Lib.hid hb
  clear hb
  obtain ⟨D, hD⟩ : ∃ D, w1.heap.size = D := ⟨_, rfl⟩
  have HPUT := Lib.hid (fun w h1 h3 h6 => (hput b w h1 h3 h6 : Calls Tryz.prog 24 #[.int .i64 2, .agg #[.string ⟨#[110]⟩, .int .u64 0, .string ⟨#[]⟩, .slice none 0 0, .int .u64 0, .string ⟨#[]⟩, .slice none 0 0, .string ⟨#[]⟩]] w fun e w' => e = .returned (.tuple #[.string S, .bool true]) ∧ Below w.heap.size w w'))
  have HBODY := Lib.hid (hbody b)
  clear hput hbody
  have HD := Lib.hid hD
  clear hD
  go_wp2_with fail
  have HB2 := Lib.hid (HB1.out.alloc HB1.out.size (.cells #[.string ⟨#[110]⟩, .int .u64 0, .string ⟨#[]⟩, .slice none 0 0, .int .u64 0, .string ⟨#[]⟩, .slice none 0 0, .string ⟨#[]⟩] 36))
  have hp := HPUT.out _ (HG.out.below HB2.out) (no_rs _ _) (no_as _ _)
  refine hp.mono ?_
  clear hp
  rintro e w4 ⟨rfl, hb⟩
  have HB4 := Lib.hid (HB2.out.trans (hb.mono HB2.out.size))
  clear hb
  go_wp2_with fail
  refine (HBODY.out _ (HG.out.below HB4.out) (HE.out.below HB4.out)).mono ?_
  rintro e w5 ⟨rfl, hb⟩
  have HB5 := Lib.hid (HB4.out.trans (hb.mono HB4.out.size))
  clear hb
  go_wp2_with fail
  go_ret
  exact ⟨rfl, HB5.out⟩
theorem wr3 : (wAnyRule (p3)).or (wEachRule (p3)) = .pl 1 ⟨#[114, 117, 108, 101]⟩ := by kernel_rfl
theorem body3 (S : ByteArray) (hS : S.size ≤ 1024) (hG : Pl.getOf 2 S.data.toList = some (p3)) (b : Addr) (w : World) (hg : Gv b w) (hge : Ge w) : Calls Tryz.prog 22 #[kyV 2 ⟨#[110]⟩, .string S] w fun e w' => e = .returned (.string ⟨#[114, 117, 108, 101, 32, 49]⟩) ∧ Below w.heap.size w w' :=
  (body_pl 2 ⟨#[110]⟩ S ⟨#[114, 117, 108, 101]⟩ ⟨#[49]⟩ 1 b w hg hge itoa_1 (by decide) (by decide) (fun w hg => (wrong_2 ⟨#[110]⟩ S (p3) b w hg hS hG (by kernel_rfl)).mono fun e w' h => ⟨by rw [h.1, wr3], h.2⟩))
set_option maxRecDepth 100000 in
set_option maxHeartbeats 4000000 in
theorem walk_3 (h n : Nat) (b : Addr) (w : World) (hg : Gv b w) (hge : Ge w) (hh : (h : Int) % 12 = 3) (_hn : n < 2 ^ 64) :
    Calls Tryz.prog 6 #[.int .u8 (h : Int), .int .u64 (n : Int)] w fun e w' => e = .returned (.bool true) ∧ Below w.heap.size w w' := by
  have HG := Lib.hid hg
  have HE := Lib.hid hge
  clear hg hge
  have hh2 : (h : Int).tmod 12 = 3 := by rw [Int.tmod_eq_emod_of_nonneg (by omega)]; exact hh
  go_enter Tryz.func6, Tryz.ntmps6
  go_wp2_with fail
  refine (ck_examples b _ HG.out HE.out).mono ?_
  rintro e w1 ⟨rfl, hb⟩
  have HB1 := Lib.hid hb
  clear hb
  obtain ⟨D, hD⟩ : ∃ D, w1.heap.size = D := ⟨_, rfl⟩
  obtain ⟨S, hput, hbody⟩ := pb (k := 2) (p := (p3)) (a3 := (some ⟨D + 1, 0, none⟩)) (a6 := none) (c3 := 2) (c6 := 0) (X := ⟨#[114, 117, 108, 101, 32, 49]⟩) rfl (sm3) (only3) (body3)
  have HPUT := Lib.hid (fun w h1 h3 h6 => (hput b w h1 h3 h6 : Calls Tryz.prog 24 #[.int .i64 2, .agg #[.string ⟨#[110]⟩, .int .u64 0, .string ⟨#[]⟩, .slice (some ⟨D + 1, 0, none⟩) 2 2, .int .u64 0, .string ⟨#[]⟩, .slice none 0 0, .string ⟨#[]⟩]] w fun e w' => e = .returned (.tuple #[.string S, .bool true]) ∧ Below w.heap.size w w'))
  have HBODY := Lib.hid (hbody b)
  clear hput hbody
  have HD := Lib.hid hD
  clear hD
  go_wp2_with fail
  have HB2 := Lib.hid (HB1.out.alloc HB1.out.size (.cells #[.string ⟨#[110]⟩, .int .u64 0, .string ⟨#[]⟩, .slice (some ⟨w1.heap.size + 1, 0, none⟩) 2 2, .int .u64 0, .string ⟨#[]⟩, .slice none 0 0, .string ⟨#[]⟩] 36))
  have HB3 := Lib.hid (HB2.out.alloc HB2.out.size (.cells #[.string ⟨#[47, 120]⟩, .string ⟨#[99]⟩, .string ⟨#[120]⟩, .string ⟨#[99]⟩] 42))
  have hp := HPUT.out _ (HG.out.below HB3.out) (show RulesAt _ (some ⟨D + 1, 0, none⟩) (p3).rules by rw [show D + 1 = (w1.alloc (.cells #[.string ⟨#[110]⟩, .int .u64 0, .string ⟨#[]⟩, .slice (some ⟨w1.heap.size + 1, 0, none⟩) 2 2, .int .u64 0, .string ⟨#[]⟩, .slice none 0 0, .string ⟨#[]⟩] 36)).heap.size by rw [World.size_alloc, HD.out]]; exact rules_new _ _ _ _ rfl) (no_as _ _)
  rw [← HD.out] at hp
  refine hp.mono ?_
  clear hp
  rintro e w4 ⟨rfl, hb⟩
  have HB4 := Lib.hid (HB3.out.trans (hb.mono HB3.out.size))
  clear hb
  go_wp2_with fail
  refine (HBODY.out _ (HG.out.below HB4.out) (HE.out.below HB4.out)).mono ?_
  rintro e w5 ⟨rfl, hb⟩
  have HB5 := Lib.hid (HB4.out.trans (hb.mono HB4.out.size))
  clear hb
  go_wp2_with fail
  go_ret
  exact ⟨rfl, HB5.out⟩
theorem wr4 : (wAnyRule (p4)).or (wEachRule (p4)) = .pl 2 ⟨#[114, 117, 108, 101]⟩ := by kernel_rfl
theorem body4 (S : ByteArray) (hS : S.size ≤ 1024) (hG : Pl.getOf 2 S.data.toList = some (p4)) (b : Addr) (w : World) (hg : Gv b w) (hge : Ge w) : Calls Tryz.prog 22 #[kyV 2 ⟨#[110]⟩, .string S] w fun e w' => e = .returned (.string ⟨#[114, 117, 108, 101, 32, 50]⟩) ∧ Below w.heap.size w w' :=
  (body_pl 2 ⟨#[110]⟩ S ⟨#[114, 117, 108, 101]⟩ ⟨#[50]⟩ 2 b w hg hge itoa_2 (by decide) (by decide) (fun w hg => (wrong_2 ⟨#[110]⟩ S (p4) b w hg hS hG (by kernel_rfl)).mono fun e w' h => ⟨by rw [h.1, wr4], h.2⟩))
set_option maxRecDepth 100000 in
set_option maxHeartbeats 4000000 in
theorem walk_4 (h n : Nat) (b : Addr) (w : World) (hg : Gv b w) (hge : Ge w) (hh : (h : Int) % 12 = 4) (_hn : n < 2 ^ 64) :
    Calls Tryz.prog 6 #[.int .u8 (h : Int), .int .u64 (n : Int)] w fun e w' => e = .returned (.bool true) ∧ Below w.heap.size w w' := by
  have HG := Lib.hid hg
  have HE := Lib.hid hge
  clear hg hge
  have hh2 : (h : Int).tmod 12 = 4 := by rw [Int.tmod_eq_emod_of_nonneg (by omega)]; exact hh
  go_enter Tryz.func6, Tryz.ntmps6
  go_wp2_with fail
  refine (ck_examples b _ HG.out HE.out).mono ?_
  rintro e w1 ⟨rfl, hb⟩
  have HB1 := Lib.hid hb
  clear hb
  obtain ⟨D, hD⟩ : ∃ D, w1.heap.size = D := ⟨_, rfl⟩
  obtain ⟨S, hput, hbody⟩ := pb (k := 2) (p := (p4)) (a3 := (some ⟨D + 1, 0, none⟩)) (a6 := none) (c3 := 3) (c6 := 0) (X := ⟨#[114, 117, 108, 101, 32, 50]⟩) rfl (sm4) (only4) (body4)
  have HPUT := Lib.hid (fun w h1 h3 h6 => (hput b w h1 h3 h6 : Calls Tryz.prog 24 #[.int .i64 2, .agg #[.string ⟨#[110]⟩, .int .u64 0, .string ⟨#[]⟩, .slice (some ⟨D + 1, 0, none⟩) 3 3, .int .u64 0, .string ⟨#[]⟩, .slice none 0 0, .string ⟨#[]⟩]] w fun e w' => e = .returned (.tuple #[.string S, .bool true]) ∧ Below w.heap.size w w'))
  have HBODY := Lib.hid (hbody b)
  clear hput hbody
  have HD := Lib.hid hD
  clear hD
  go_wp2_with fail
  have HB2 := Lib.hid (HB1.out.alloc HB1.out.size (.cells #[.string ⟨#[110]⟩, .int .u64 0, .string ⟨#[]⟩, .slice (some ⟨w1.heap.size + 1, 0, none⟩) 3 3, .int .u64 0, .string ⟨#[]⟩, .slice none 0 0, .string ⟨#[]⟩] 36))
  have HB3 := Lib.hid (HB2.out.alloc HB2.out.size (.cells #[.string ⟨#[47, 120]⟩, .string ⟨#[99]⟩, .string ⟨#[47, 121]⟩, .string ⟨#[99]⟩, .string ⟨#[47, 120, 121]⟩, .string ⟨#[99]⟩] 42))
  have hp := HPUT.out _ (HG.out.below HB3.out) (show RulesAt _ (some ⟨D + 1, 0, none⟩) (p4).rules by rw [show D + 1 = (w1.alloc (.cells #[.string ⟨#[110]⟩, .int .u64 0, .string ⟨#[]⟩, .slice (some ⟨w1.heap.size + 1, 0, none⟩) 3 3, .int .u64 0, .string ⟨#[]⟩, .slice none 0 0, .string ⟨#[]⟩] 36)).heap.size by rw [World.size_alloc, HD.out]]; exact rules_new _ _ _ _ rfl) (no_as _ _)
  rw [← HD.out] at hp
  refine hp.mono ?_
  clear hp
  rintro e w4 ⟨rfl, hb⟩
  have HB4 := Lib.hid (HB3.out.trans (hb.mono HB3.out.size))
  clear hb
  go_wp2_with fail
  refine (HBODY.out _ (HG.out.below HB4.out) (HE.out.below HB4.out)).mono ?_
  rintro e w5 ⟨rfl, hb⟩
  have HB5 := Lib.hid (HB4.out.trans (hb.mono HB4.out.size))
  clear hb
  go_wp2_with fail
  go_ret
  exact ⟨rfl, HB5.out⟩
theorem wr5 (N1 : Nat) (hN : 3 ≤ N1) (hN2 : N1 < 2000) : (wPolicy (p5 N1)).or (wSecret (p5 N1)) = .word ⟨#[112, 111, 108, 105, 99, 121]⟩ := by
  have h1 : decide (2 < (p5 N1).policy) = true := decide_eq_true (show 2 < N1 by omega)
  unfold wPolicy; rw [h1]; rfl
theorem body5 (N1 : Nat) (hN : 3 ≤ N1) (hN2 : N1 < 2000) (S : ByteArray) (hS : S.size ≤ 1024) (hG : Pl.getOf 3 S.data.toList = some (p5 N1)) (b : Addr) (w : World) (hg : Gv b w) (hge : Ge w) : Calls Tryz.prog 22 #[kyV 3 ⟨#[110]⟩, .string S] w fun e w' => e = .returned (.string ⟨#[112, 111, 108, 105, 99, 121]⟩) ∧ Below w.heap.size w w' :=
  body_word 3 ⟨#[110]⟩ S ⟨#[112, 111, 108, 105, 99, 121]⟩ b w hg hge (fun w hg => (wrong_3 ⟨#[110]⟩ S (p5 N1) b w hg hS hG (by kernel_rfl)).mono fun e w' h => ⟨by rw [h.1, wr5 N1 hN hN2], h.2⟩)
set_option maxRecDepth 100000 in
set_option maxHeartbeats 4000000 in
theorem walk_5 (h n : Nat) (b : Addr) (w : World) (hg : Gv b w) (hge : Ge w) (hh : (h : Int) % 12 = 5) (_hn : n < 2 ^ 64) :
    Calls Tryz.prog 6 #[.int .u8 (h : Int), .int .u64 (n : Int)] w fun e w' => e = .returned (.bool true) ∧ Below w.heap.size w w' := by
  have HG := Lib.hid hg
  have HE := Lib.hid hge
  clear hg hge
  have hh2 : (h : Int).tmod 12 = 5 := by rw [Int.tmod_eq_emod_of_nonneg (by omega)]; exact hh
  obtain ⟨m, hm⟩ : ∃ m, n % 1000 = m := ⟨_, rfl⟩
  have m1 : (n : Int) % 1000 = (m : Int) := by omega
  have m2 : (n : Int).tmod 1000 = (m : Int) := by rw [Int.tmod_eq_emod_of_nonneg (by omega)]; omega
  obtain ⟨N1, hN1⟩ : ∃ N1, 3 + m = N1 := ⟨_, rfl⟩
  have m3 : IntKind.u64.wrap (3 + (m : Int)) = (N1 : Int) := by rw [← hN1]; simp [IntKind.wrap, IntKind.signed, IntKind.bits]; omega
  have m4 : (3 + (m : Int)) = (N1 : Int) := by omega
  have hN : 3 ≤ N1 := by omega
  have hN2 : N1 < 2000 := by omega
  clear hm hN1
  obtain ⟨S, hput, hbody⟩ := pb (k := 3) (p := (p5 N1)) (a3 := none) (a6 := none) (c3 := 0) (c6 := 0) (X := ⟨#[112, 111, 108, 105, 99, 121]⟩) rfl (sm5 N1 hN hN2) (only5 N1) (body5 N1 hN hN2)
  go_enter Tryz.func6, Tryz.ntmps6
  go_wp2_with fail
  refine (ck_examples b _ HG.out HE.out).mono ?_
  rintro e w1 ⟨rfl, hb⟩
  have HB1 := Lib.hid hb
  clear hb
  obtain ⟨D, hD⟩ : ∃ D, w1.heap.size = D := ⟨_, rfl⟩
  have HPUT := Lib.hid (fun w h1 h3 h6 => (hput b w h1 h3 h6 : Calls Tryz.prog 24 #[.int .i64 3, .agg #[.string ⟨#[110]⟩, .int .u64 0, .string ⟨#[]⟩, .slice none 0 0, .int .u64 (N1 : Int), .string ⟨#[]⟩, .slice none 0 0, .string ⟨#[]⟩]] w fun e w' => e = .returned (.tuple #[.string S, .bool true]) ∧ Below w.heap.size w w'))
  have HBODY := Lib.hid (hbody b)
  clear hput hbody
  have HD := Lib.hid hD
  clear hD
  go_wp2_with fail
  have HB2 := Lib.hid (HB1.out.alloc HB1.out.size (.cells #[.string ⟨#[110]⟩, .int .u64 0, .string ⟨#[]⟩, .slice none 0 0, .int .u64 (N1 : Int), .string ⟨#[]⟩, .slice none 0 0, .string ⟨#[]⟩] 36))
  have hp := HPUT.out _ (HG.out.below HB2.out) (no_rs _ _) (no_as _ _)
  refine hp.mono ?_
  clear hp
  rintro e w4 ⟨rfl, hb⟩
  have HB4 := Lib.hid (HB2.out.trans (hb.mono HB2.out.size))
  clear hb
  go_wp2_with fail
  refine (HBODY.out _ (HG.out.below HB4.out) (HE.out.below HB4.out)).mono ?_
  rintro e w5 ⟨rfl, hb⟩
  have HB5 := Lib.hid (HB4.out.trans (hb.mono HB4.out.size))
  clear hb
  go_wp2_with fail
  go_ret
  exact ⟨rfl, HB5.out⟩
theorem wr6 (N1 : Nat) (hN : 0 ≤ N1) (hN2 : N1 < 3) : (wPolicy (p6 N1)).or (wSecret (p6 N1)) = .word ⟨#[115, 101, 99, 114, 101, 116]⟩ := by
  have h1 : decide (2 < (p6 N1).policy) = false := decide_eq_false (show ¬ 2 < N1 by omega)
  have h2 : wSecret (p6 N1) = .word ⟨#[115, 101, 99, 114, 101, 116]⟩ := by kernel_rfl
  unfold wPolicy; rw [h1, h2]; rfl
theorem body6 (N1 : Nat) (hN : 0 ≤ N1) (hN2 : N1 < 3) (S : ByteArray) (hS : S.size ≤ 1024) (hG : Pl.getOf 3 S.data.toList = some (p6 N1)) (b : Addr) (w : World) (hg : Gv b w) (hge : Ge w) : Calls Tryz.prog 22 #[kyV 3 ⟨#[110]⟩, .string S] w fun e w' => e = .returned (.string ⟨#[115, 101, 99, 114, 101, 116]⟩) ∧ Below w.heap.size w w' :=
  body_word 3 ⟨#[110]⟩ S ⟨#[115, 101, 99, 114, 101, 116]⟩ b w hg hge (fun w hg => (wrong_3 ⟨#[110]⟩ S (p6 N1) b w hg hS hG (by kernel_rfl)).mono fun e w' h => ⟨by rw [h.1, wr6 N1 hN hN2], h.2⟩)
set_option maxRecDepth 100000 in
set_option maxHeartbeats 4000000 in
theorem walk_6 (h n : Nat) (b : Addr) (w : World) (hg : Gv b w) (hge : Ge w) (hh : (h : Int) % 12 = 6) (_hn : n < 2 ^ 64) :
    Calls Tryz.prog 6 #[.int .u8 (h : Int), .int .u64 (n : Int)] w fun e w' => e = .returned (.bool true) ∧ Below w.heap.size w w' := by
  have HG := Lib.hid hg
  have HE := Lib.hid hge
  clear hg hge
  have hh2 : (h : Int).tmod 12 = 6 := by rw [Int.tmod_eq_emod_of_nonneg (by omega)]; exact hh
  obtain ⟨N1, hm⟩ : ∃ m, n % 3 = m := ⟨_, rfl⟩
  have m1 : (n : Int) % 3 = (N1 : Int) := by omega
  have m2 : (n : Int).tmod 3 = (N1 : Int) := by rw [Int.tmod_eq_emod_of_nonneg (by omega)]; omega
  have m3 : IntKind.u64.wrap (N1 : Int) = (N1 : Int) := by simp [IntKind.wrap, IntKind.signed, IntKind.bits]; omega
  have hN : 0 ≤ N1 := by omega
  have hN2 : N1 < 3 := by omega
  clear hm
  obtain ⟨S, hput, hbody⟩ := pb (k := 3) (p := (p6 N1)) (a3 := none) (a6 := none) (c3 := 0) (c6 := 0) (X := ⟨#[115, 101, 99, 114, 101, 116]⟩) rfl (sm6 N1 hN hN2) (only6 N1) (body6 N1 hN hN2)
  go_enter Tryz.func6, Tryz.ntmps6
  go_wp2_with fail
  refine (ck_examples b _ HG.out HE.out).mono ?_
  rintro e w1 ⟨rfl, hb⟩
  have HB1 := Lib.hid hb
  clear hb
  obtain ⟨D, hD⟩ : ∃ D, w1.heap.size = D := ⟨_, rfl⟩
  have HPUT := Lib.hid (fun w h1 h3 h6 => (hput b w h1 h3 h6 : Calls Tryz.prog 24 #[.int .i64 3, .agg #[.string ⟨#[110]⟩, .int .u64 0, .string ⟨#[]⟩, .slice none 0 0, .int .u64 (N1 : Int), .string ⟨#[83]⟩, .slice none 0 0, .string ⟨#[]⟩]] w fun e w' => e = .returned (.tuple #[.string S, .bool true]) ∧ Below w.heap.size w w'))
  have HBODY := Lib.hid (hbody b)
  clear hput hbody
  have HD := Lib.hid hD
  clear hD
  go_wp2_with fail
  have HB2 := Lib.hid (HB1.out.alloc HB1.out.size (.cells #[.string ⟨#[110]⟩, .int .u64 0, .string ⟨#[]⟩, .slice none 0 0, .int .u64 (N1 : Int), .string ⟨#[83]⟩, .slice none 0 0, .string ⟨#[]⟩] 36))
  have hp := HPUT.out _ (HG.out.below HB2.out) (no_rs _ _) (no_as _ _)
  refine hp.mono ?_
  clear hp
  rintro e w4 ⟨rfl, hb⟩
  have HB4 := Lib.hid (HB2.out.trans (hb.mono HB2.out.size))
  clear hb
  go_wp2_with fail
  refine (HBODY.out _ (HG.out.below HB4.out) (HE.out.below HB4.out)).mono ?_
  rintro e w5 ⟨rfl, hb⟩
  have HB5 := Lib.hid (HB4.out.trans (hb.mono HB4.out.size))
  clear hb
  go_wp2_with fail
  go_ret
  exact ⟨rfl, HB5.out⟩
theorem wr7 : (wEachAddr (p7)).or (wWeight (p7)) = .pl 2 ⟨#[97, 100, 100, 114]⟩ := by kernel_rfl
theorem body7 (S : ByteArray) (hS : S.size ≤ 1024) (hG : Pl.getOf 4 S.data.toList = some (p7)) (b : Addr) (w : World) (hg : Gv b w) (hge : Ge w) : Calls Tryz.prog 22 #[kyV 4 ⟨#[110]⟩, .string S] w fun e w' => e = .returned (.string ⟨#[97, 100, 100, 114, 32, 50]⟩) ∧ Below w.heap.size w w' :=
  (body_pl 4 ⟨#[110]⟩ S ⟨#[97, 100, 100, 114]⟩ ⟨#[50]⟩ 2 b w hg hge itoa_2 (by decide) (by decide) (fun w hg => (wrong_4 ⟨#[110]⟩ S (p7) b w hg hS hG (by kernel_rfl) (sm7).ads).mono fun e w' h => ⟨by rw [h.1, wr7], h.2⟩))
set_option maxRecDepth 100000 in
set_option maxHeartbeats 4000000 in
theorem walk_7 (h n : Nat) (b : Addr) (w : World) (hg : Gv b w) (hge : Ge w) (hh : (h : Int) % 12 = 7) (_hn : n < 2 ^ 64) :
    Calls Tryz.prog 6 #[.int .u8 (h : Int), .int .u64 (n : Int)] w fun e w' => e = .returned (.bool true) ∧ Below w.heap.size w w' := by
  have HG := Lib.hid hg
  have HE := Lib.hid hge
  clear hg hge
  have hh2 : (h : Int).tmod 12 = 7 := by rw [Int.tmod_eq_emod_of_nonneg (by omega)]; exact hh
  go_enter Tryz.func6, Tryz.ntmps6
  go_wp2_with fail
  refine (ck_examples b _ HG.out HE.out).mono ?_
  rintro e w1 ⟨rfl, hb⟩
  have HB1 := Lib.hid hb
  clear hb
  obtain ⟨D, hD⟩ : ∃ D, w1.heap.size = D := ⟨_, rfl⟩
  obtain ⟨S, hput, hbody⟩ := pb (k := 4) (p := (p7)) (a3 := none) (a6 := (some ⟨D + 1, 0, none⟩)) (c3 := 0) (c6 := 3) (X := ⟨#[97, 100, 100, 114, 32, 50]⟩) rfl (sm7) (only7) (body7)
  have HPUT := Lib.hid (fun w h1 h3 h6 => (hput b w h1 h3 h6 : Calls Tryz.prog 24 #[.int .i64 4, .agg #[.string ⟨#[110]⟩, .int .u64 0, .string ⟨#[]⟩, .slice none 0 0, .int .u64 0, .string ⟨#[]⟩, .slice (some ⟨D + 1, 0, none⟩) 3 3, .string ⟨#[]⟩]] w fun e w' => e = .returned (.tuple #[.string S, .bool true]) ∧ Below w.heap.size w w'))
  have HBODY := Lib.hid (hbody b)
  clear hput hbody
  have HD := Lib.hid hD
  clear hD
  go_wp2_with fail
  have HB2 := Lib.hid (HB1.out.alloc HB1.out.size (.cells #[.string ⟨#[110]⟩, .int .u64 0, .string ⟨#[]⟩, .slice none 0 0, .int .u64 0, .string ⟨#[]⟩, .slice (some ⟨w1.heap.size + 1, 0, none⟩) 3 3, .string ⟨#[]⟩] 36))
  have HB3 := Lib.hid (HB2.out.alloc HB2.out.size (.cells #[.string ⟨#[104]⟩, .int .u64 1, .int .u64 0, .string ⟨#[104]⟩, .int .u64 2, .int .u64 0, .string ⟨#[104]⟩, .int .u64 1, .int .u64 0] 44))
  have hp := HPUT.out _ (HG.out.below HB3.out) (no_rs _ _) (show AddrsAt _ (some ⟨D + 1, 0, none⟩) (p7).addrs by rw [show D + 1 = (w1.alloc (.cells #[.string ⟨#[110]⟩, .int .u64 0, .string ⟨#[]⟩, .slice none 0 0, .int .u64 0, .string ⟨#[]⟩, .slice (some ⟨w1.heap.size + 1, 0, none⟩) 3 3, .string ⟨#[]⟩] 36)).heap.size by rw [World.size_alloc, HD.out]]; exact addrs_new _ _ _ _ rfl)
  rw [← HD.out] at hp
  refine hp.mono ?_
  clear hp
  rintro e w4 ⟨rfl, hb⟩
  have HB4 := Lib.hid (HB3.out.trans (hb.mono HB3.out.size))
  clear hb
  go_wp2_with fail
  refine (HBODY.out _ (HG.out.below HB4.out) (HE.out.below HB4.out)).mono ?_
  rintro e w5 ⟨rfl, hb⟩
  have HB5 := Lib.hid (HB4.out.trans (hb.mono HB4.out.size))
  clear hb
  go_wp2_with fail
  go_ret
  exact ⟨rfl, HB5.out⟩
theorem wr8 (N1 : Nat) (hN : 1 ≤ N1) (hN2 : N1 < 2000) : (wEachAddr (p8 N1)).or (wWeight (p8 N1)) = .word ⟨#[119, 101, 105, 103, 104, 116]⟩ := by
  have h1 : decide (4294967295 < wsum (p8 N1).addrs) = true := by simp [p8, wsum]; omega
  have h2 : wEachAddr (p8 N1) = .no := by kernel_rfl
  unfold wWeight; rw [h1, h2]; rfl
theorem body8 (N1 : Nat) (hN : 1 ≤ N1) (hN2 : N1 < 2000) (S : ByteArray) (hS : S.size ≤ 1024) (hG : Pl.getOf 4 S.data.toList = some (p8 N1)) (b : Addr) (w : World) (hg : Gv b w) (hge : Ge w) : Calls Tryz.prog 22 #[kyV 4 ⟨#[110]⟩, .string S] w fun e w' => e = .returned (.string ⟨#[119, 101, 105, 103, 104, 116]⟩) ∧ Below w.heap.size w w' :=
  body_word 4 ⟨#[110]⟩ S ⟨#[119, 101, 105, 103, 104, 116]⟩ b w hg hge (fun w hg => (wrong_4 ⟨#[110]⟩ S (p8 N1) b w hg hS hG (by kernel_rfl) (sm8 N1 hN hN2).ads).mono fun e w' h => ⟨by rw [h.1, wr8 N1 hN hN2], h.2⟩)
set_option maxRecDepth 100000 in
set_option maxHeartbeats 4000000 in
theorem walk_8 (h n : Nat) (b : Addr) (w : World) (hg : Gv b w) (hge : Ge w) (hh : (h : Int) % 12 = 8) (_hn : n < 2 ^ 64) :
    Calls Tryz.prog 6 #[.int .u8 (h : Int), .int .u64 (n : Int)] w fun e w' => e = .returned (.bool true) ∧ Below w.heap.size w w' := by
  have HG := Lib.hid hg
  have HE := Lib.hid hge
  clear hg hge
  have hh2 : (h : Int).tmod 12 = 8 := by rw [Int.tmod_eq_emod_of_nonneg (by omega)]; exact hh
  obtain ⟨m, hm⟩ : ∃ m, n % 1000 = m := ⟨_, rfl⟩
  have m1 : (n : Int) % 1000 = (m : Int) := by omega
  have m2 : (n : Int).tmod 1000 = (m : Int) := by rw [Int.tmod_eq_emod_of_nonneg (by omega)]; omega
  obtain ⟨N1, hN1⟩ : ∃ N1, 1 + m = N1 := ⟨_, rfl⟩
  have m3 : IntKind.u64.wrap (1 + (m : Int)) = (N1 : Int) := by rw [← hN1]; simp [IntKind.wrap, IntKind.signed, IntKind.bits]; omega
  have m4 : (1 + (m : Int)) = (N1 : Int) := by omega
  have hN : 1 ≤ N1 := by omega
  have hN2 : N1 < 2000 := by omega
  clear hm hN1
  go_enter Tryz.func6, Tryz.ntmps6
  go_wp2_with fail
  refine (ck_examples b _ HG.out HE.out).mono ?_
  rintro e w1 ⟨rfl, hb⟩
  have HB1 := Lib.hid hb
  clear hb
  obtain ⟨D, hD⟩ : ∃ D, w1.heap.size = D := ⟨_, rfl⟩
  obtain ⟨S, hput, hbody⟩ := pb (k := 4) (p := (p8 N1)) (a3 := none) (a6 := (some ⟨D + 1, 0, none⟩)) (c3 := 0) (c6 := 2) (X := ⟨#[119, 101, 105, 103, 104, 116]⟩) rfl (sm8 N1 hN hN2) (only8 N1) (body8 N1 hN hN2)
  have HPUT := Lib.hid (fun w h1 h3 h6 => (hput b w h1 h3 h6 : Calls Tryz.prog 24 #[.int .i64 4, .agg #[.string ⟨#[110]⟩, .int .u64 0, .string ⟨#[]⟩, .slice none 0 0, .int .u64 0, .string ⟨#[]⟩, .slice (some ⟨D + 1, 0, none⟩) 2 2, .string ⟨#[]⟩]] w fun e w' => e = .returned (.tuple #[.string S, .bool true]) ∧ Below w.heap.size w w'))
  have HBODY := Lib.hid (hbody b)
  clear hput hbody
  have HD := Lib.hid hD
  clear hD
  go_wp2_with fail
  have HB2 := Lib.hid (HB1.out.alloc HB1.out.size (.cells #[.string ⟨#[110]⟩, .int .u64 0, .string ⟨#[]⟩, .slice none 0 0, .int .u64 0, .string ⟨#[]⟩, .slice (some ⟨w1.heap.size + 1, 0, none⟩) 2 2, .string ⟨#[]⟩] 36))
  have HB3 := Lib.hid (HB2.out.alloc HB2.out.size (.cells #[.string ⟨#[104]⟩, .int .u64 1, .int .u64 4294967295, .string ⟨#[104]⟩, .int .u64 2, .int .u64 (N1 : Int)] 44))
  have hp := HPUT.out _ (HG.out.below HB3.out) (no_rs _ _) (show AddrsAt _ (some ⟨D + 1, 0, none⟩) (p8 N1).addrs by rw [show D + 1 = (w1.alloc (.cells #[.string ⟨#[110]⟩, .int .u64 0, .string ⟨#[]⟩, .slice none 0 0, .int .u64 0, .string ⟨#[]⟩, .slice (some ⟨w1.heap.size + 1, 0, none⟩) 2 2, .string ⟨#[]⟩] 36)).heap.size by rw [World.size_alloc, HD.out]]; exact addrs_new _ _ _ _ rfl)
  rw [← HD.out] at hp
  refine hp.mono ?_
  clear hp
  rintro e w4 ⟨rfl, hb⟩
  have HB4 := Lib.hid (HB3.out.trans (hb.mono HB3.out.size))
  clear hb
  go_wp2_with fail
  refine (HBODY.out _ (HG.out.below HB4.out) (HE.out.below HB4.out)).mono ?_
  rintro e w5 ⟨rfl, hb⟩
  have HB5 := Lib.hid (HB4.out.trans (hb.mono HB4.out.size))
  clear hb
  go_wp2_with fail
  go_ret
  exact ⟨rfl, HB5.out⟩
theorem wr9 (Z : ByteArray) (hN : Z.size < 16) : wKey (p9 Z) = .word ⟨#[107, 101, 121]⟩ := by
  have h1 : decide ((p9 Z).key.size < 16) = true := decide_eq_true (show Z.size < 16 by omega)
  unfold wKey; rw [h1]; rfl
theorem body9 (Z : ByteArray) (hN : Z.size < 16) (S : ByteArray) (hS : S.size ≤ 1024) (hG : Pl.getOf 5 S.data.toList = some (p9 Z)) (b : Addr) (w : World) (hg : Gv b w) (hge : Ge w) : Calls Tryz.prog 22 #[kyV 5 ⟨#[110]⟩, .string S] w fun e w' => e = .returned (.string ⟨#[107, 101, 121]⟩) ∧ Below w.heap.size w w' :=
  body_word 5 ⟨#[110]⟩ S ⟨#[107, 101, 121]⟩ b w hg hge (fun w hg => (wrong_5 ⟨#[110]⟩ S (p9 Z) b w hg hS hG (by kernel_rfl)).mono fun e w' h => ⟨by rw [h.1, wr9 Z hN], h.2⟩)
set_option maxRecDepth 100000 in
set_option maxHeartbeats 4000000 in
theorem walk_9 (h n : Nat) (b : Addr) (w : World) (hg : Gv b w) (hge : Ge w) (hh : (h : Int) % 12 = 9) (_hn : n < 2 ^ 64) :
    Calls Tryz.prog 6 #[.int .u8 (h : Int), .int .u64 (n : Int)] w fun e w' => e = .returned (.bool true) ∧ Below w.heap.size w w' := by
  have HG := Lib.hid hg
  have HE := Lib.hid hge
  clear hg hge
  have hh2 : (h : Int).tmod 12 = 9 := by rw [Int.tmod_eq_emod_of_nonneg (by omega)]; exact hh
  obtain ⟨m, hm⟩ : ∃ m, n % 16 = m := ⟨_, rfl⟩
  have m1 : (n : Int) % 16 = (m : Int) := by omega
  have m2 : (n : Int).tmod 16 = (m : Int) := by rw [Int.tmod_eq_emod_of_nonneg (by omega)]; omega
  have m3 : IntKind.u64.wrap (m : Int) = (m : Int) := by simp [IntKind.wrap, IntKind.signed, IntKind.bits]; omega
  have hml : m < 16 := by omega
  obtain ⟨cs, hcs, hmk⟩ := make_z .u64 m (by omega)
  obtain ⟨Z, hZ⟩ : ∃ Z : ByteArray, (⟨(List.replicate m (0 : UInt8)).toArray⟩ : ByteArray) = Z := ⟨_, rfl⟩
  have hN : Z.size < 16 := by rw [← hZ, z_size]; omega
  have hcv : ∀ W : World, (convert 58 9 (.slice (some ⟨W.heap.size, 0, none⟩) m m)).run Tryz.prog (W.alloc (.cells cs 5)) = .ok (.string Z) (W.alloc (.cells cs 5)) := fun W => by rw [← hZ]; exact conv_z hcs (World.alloc_heap_new W _)
  clear hcs hZ
  obtain ⟨S, hput, hbody⟩ := pb (k := 5) (p := (p9 Z)) (a3 := none) (a6 := none) (c3 := 0) (c6 := 0) (X := ⟨#[107, 101, 121]⟩) rfl (sm9 Z hN) (only9 Z) (body9 Z hN)
  go_enter Tryz.func6, Tryz.ntmps6
  go_wp2_with fail
  refine (ck_examples b _ HG.out HE.out).mono ?_
  rintro e w1 ⟨rfl, hb⟩
  have HB1 := Lib.hid hb
  clear hb
  obtain ⟨D, hD⟩ : ∃ D, w1.heap.size = D := ⟨_, rfl⟩
  have hcv2 := hcv (w1.alloc (.cells #[.string ⟨#[110]⟩, .int .u64 80, .string ⟨#[114]⟩, .slice none 0 0, .int .u64 0, .string ⟨#[]⟩, .slice none 0 0, .string ⟨#[]⟩] 36))
  rw [World.size_alloc] at hcv2
  clear hcv
  have HPUT := Lib.hid (fun w h1 h3 h6 => (hput b w h1 h3 h6 : Calls Tryz.prog 24 #[.int .i64 5, .agg #[.string ⟨#[110]⟩, .int .u64 0, .string ⟨#[]⟩, .slice none 0 0, .int .u64 0, .string ⟨#[]⟩, .slice none 0 0, .string Z]] w fun e w' => e = .returned (.tuple #[.string S, .bool true]) ∧ Below w.heap.size w w'))
  have HBODY := Lib.hid (hbody b)
  clear hput hbody
  have HD := Lib.hid hD
  clear hD
  go_wp2_with fail
  clear hcv2 hmk
  have HB2 := Lib.hid (HB1.out.alloc HB1.out.size (.cells #[.string ⟨#[110]⟩, .int .u64 0, .string ⟨#[]⟩, .slice none 0 0, .int .u64 0, .string ⟨#[]⟩, .slice none 0 0, .string Z] 36))
  have HB3 := Lib.hid (HB2.out.alloc HB2.out.size (.cells cs 5))
  have hp := HPUT.out _ (HG.out.below HB3.out) (no_rs _ _) (no_as _ _)
  refine hp.mono ?_
  clear hp
  rintro e w4 ⟨rfl, hb⟩
  have HB4 := Lib.hid (HB3.out.trans (hb.mono HB3.out.size))
  clear hb
  go_wp2_with fail
  refine (HBODY.out _ (HG.out.below HB4.out) (HE.out.below HB4.out)).mono ?_
  rintro e w5 ⟨rfl, hb⟩
  have HB5 := Lib.hid (HB4.out.trans (hb.mono HB4.out.size))
  clear hb
  go_wp2_with fail
  go_ret
  exact ⟨rfl, HB5.out⟩
theorem body10 (Z : ByteArray) (_hN : Z.size = 16) (S : ByteArray) (hS : S.size ≤ 1024) (hG : Pl.getOf 5 S.data.toList = some (p10 Z)) (b : Addr) (w : World) (hg : Gv b w) (hge : Ge w) : Calls Tryz.prog 22 #[kyV 5 ⟨#[110]⟩, .string S] w fun e w' => e = .returned (.string ⟨#[110, 97, 109, 101]⟩) ∧ Below w.heap.size w w' :=
  body_word 5 ⟨#[110]⟩ S ⟨#[110, 97, 109, 101]⟩ b w hg hge (fun w hg => firstWrong_name 5 ⟨#[110]⟩ S (p10 Z) b w hg hS hG (by kernel_rfl))
set_option maxRecDepth 100000 in
set_option maxHeartbeats 4000000 in
theorem walk_10 (h n : Nat) (b : Addr) (w : World) (hg : Gv b w) (hge : Ge w) (hh : (h : Int) % 12 = 10) (_hn : n < 2 ^ 64) :
    Calls Tryz.prog 6 #[.int .u8 (h : Int), .int .u64 (n : Int)] w fun e w' => e = .returned (.bool true) ∧ Below w.heap.size w w' := by
  have HG := Lib.hid hg
  have HE := Lib.hid hge
  clear hg hge
  have hh2 : (h : Int).tmod 12 = 10 := by rw [Int.tmod_eq_emod_of_nonneg (by omega)]; exact hh
  obtain ⟨cs, hcs, hmk'⟩ := make_z .i64 16 (by omega)
  have hmk : ∀ W : World, (Instr.makeSlice 58 (.int .i64 16) (.int .i64 16)).run Tryz.prog W = .ok (.slice (some ⟨W.heap.size, 0, none⟩) 16 16) (W.alloc (.cells cs 5)) := hmk'
  clear hmk'
  obtain ⟨Z, hZ⟩ : ∃ Z : ByteArray, (⟨(List.replicate 16 (0 : UInt8)).toArray⟩ : ByteArray) = Z := ⟨_, rfl⟩
  have hN : Z.size = 16 := by rw [← hZ, z_size]
  have hcv : ∀ W : World, (convert 58 9 (.slice (some ⟨W.heap.size, 0, none⟩) 16 16)).run Tryz.prog (W.alloc (.cells cs 5)) = .ok (.string Z) (W.alloc (.cells cs 5)) := fun W => by rw [← hZ]; exact conv_z hcs (World.alloc_heap_new W _)
  clear hcs hZ
  obtain ⟨S, hput, hbody⟩ := pb (k := 5) (p := (p10 Z)) (a3 := none) (a6 := none) (c3 := 0) (c6 := 0) (X := ⟨#[110, 97, 109, 101]⟩) rfl (sm10 Z hN) (only10 Z) (body10 Z hN)
  go_enter Tryz.func6, Tryz.ntmps6
  go_wp2_with fail
  refine (ck_examples b _ HG.out HE.out).mono ?_
  rintro e w1 ⟨rfl, hb⟩
  have HB1 := Lib.hid hb
  clear hb
  obtain ⟨D, hD⟩ : ∃ D, w1.heap.size = D := ⟨_, rfl⟩
  have hcv2 := hcv (w1.alloc (.cells #[.string ⟨#[110]⟩, .int .u64 80, .string ⟨#[114]⟩, .slice none 0 0, .int .u64 0, .string ⟨#[]⟩, .slice none 0 0, .string ⟨#[]⟩] 36))
  rw [World.size_alloc] at hcv2
  clear hcv
  have HPUT := Lib.hid (fun w h1 h3 h6 => (hput b w h1 h3 h6 : Calls Tryz.prog 24 #[.int .i64 5, .agg #[.string ⟨#[109]⟩, .int .u64 0, .string ⟨#[]⟩, .slice none 0 0, .int .u64 0, .string ⟨#[]⟩, .slice none 0 0, .string Z]] w fun e w' => e = .returned (.tuple #[.string S, .bool true]) ∧ Below w.heap.size w w'))
  have HBODY := Lib.hid (hbody b)
  clear hput hbody
  have HD := Lib.hid hD
  clear hD
  go_wp2_with fail
  clear hcv2 hmk
  have HB2 := Lib.hid (HB1.out.alloc HB1.out.size (.cells #[.string ⟨#[109]⟩, .int .u64 0, .string ⟨#[]⟩, .slice none 0 0, .int .u64 0, .string ⟨#[]⟩, .slice none 0 0, .string Z] 36))
  have HB3 := Lib.hid (HB2.out.alloc HB2.out.size (.cells cs 5))
  have hp := HPUT.out _ (HG.out.below HB3.out) (no_rs _ _) (no_as _ _)
  refine hp.mono ?_
  clear hp
  rintro e w4 ⟨rfl, hb⟩
  have HB4 := Lib.hid (HB3.out.trans (hb.mono HB3.out.size))
  clear hb
  go_wp2_with fail
  refine (HBODY.out _ (HG.out.below HB4.out) (HE.out.below HB4.out)).mono ?_
  rintro e w5 ⟨rfl, hb⟩
  have HB5 := Lib.hid (HB4.out.trans (hb.mono HB4.out.size))
  clear hb
  go_wp2_with fail
  go_ret
  exact ⟨rfl, HB5.out⟩
theorem wr11 : (wPort (p11)).or (wRoute (p11)) = .no := by kernel_rfl
theorem body11 (S : ByteArray) (hS : S.size ≤ 1024) (hG : Pl.getOf 1 S.data.toList = some (p11)) (b : Addr) (w : World) (hg : Gv b w) (_hge : Ge w) : Calls Tryz.prog 22 #[kyV 1 ⟨#[110]⟩, .string S] w fun e w' => e = .returned (.string ⟨#[]⟩) ∧ Below w.heap.size w w' :=
  body_no 1 ⟨#[110]⟩ S b w hg (fun w hg => (wrong_1 ⟨#[110]⟩ S (p11) b w hg hS hG (by kernel_rfl)).mono fun e w' h => ⟨by rw [h.1, wr11], h.2⟩)
set_option maxRecDepth 100000 in
set_option maxHeartbeats 4000000 in
theorem walk_11 (h n : Nat) (b : Addr) (w : World) (hg : Gv b w) (hge : Ge w) (hh : (h : Int) % 12 = 11) (_hn : n < 2 ^ 64) :
    Calls Tryz.prog 6 #[.int .u8 (h : Int), .int .u64 (n : Int)] w fun e w' => e = .returned (.bool true) ∧ Below w.heap.size w w' := by
  have HG := Lib.hid hg
  have HE := Lib.hid hge
  clear hg hge
  have hh2 : (h : Int).tmod 12 = 11 := by rw [Int.tmod_eq_emod_of_nonneg (by omega)]; exact hh
  obtain ⟨S, hput, hbody⟩ := pb (k := 1) (p := (p11)) (a3 := none) (a6 := none) (c3 := 0) (c6 := 0) (X := ⟨#[]⟩) rfl (sm11) (only11) (body11)
  go_enter Tryz.func6, Tryz.ntmps6
  go_wp2_with fail
  refine (ck_examples b _ HG.out HE.out).mono ?_
  rintro e w1 ⟨rfl, hb⟩
  have HB1 := Lib.hid hb
  clear hb
  obtain ⟨D, hD⟩ : ∃ D, w1.heap.size = D := ⟨_, rfl⟩
  have HPUT := Lib.hid (fun w h1 h3 h6 => (hput b w h1 h3 h6 : Calls Tryz.prog 24 #[.int .i64 1, .agg #[.string ⟨#[110]⟩, .int .u64 80, .string ⟨#[114]⟩, .slice none 0 0, .int .u64 0, .string ⟨#[]⟩, .slice none 0 0, .string ⟨#[]⟩]] w fun e w' => e = .returned (.tuple #[.string S, .bool true]) ∧ Below w.heap.size w w'))
  have HBODY := Lib.hid (hbody b)
  clear hput hbody
  have HD := Lib.hid hD
  clear hD
  go_wp2_with fail
  have HB2 := Lib.hid (HB1.out.alloc HB1.out.size (.cells #[.string ⟨#[110]⟩, .int .u64 80, .string ⟨#[114]⟩, .slice none 0 0, .int .u64 0, .string ⟨#[]⟩, .slice none 0 0, .string ⟨#[]⟩] 36))
  have hp := HPUT.out _ (HG.out.below HB2.out) (no_rs _ _) (no_as _ _)
  refine hp.mono ?_
  clear hp
  rintro e w4 ⟨rfl, hb⟩
  have HB4 := Lib.hid (HB2.out.trans (hb.mono HB2.out.size))
  clear hb
  go_wp2_with fail
  refine (HBODY.out _ (HG.out.below HB4.out) (HE.out.below HB4.out)).mono ?_
  rintro e w5 ⟨rfl, hb⟩
  have HB5 := Lib.hid (HB4.out.trans (hb.mono HB4.out.size))
  clear hb
  go_wp2_with fail
  go_ret
  exact ⟨rfl, HB5.out⟩
theorem walk (h n : Nat) (b : Addr) (w : World) (hg : Gv b w) (hge : Ge w) (_hh : h < 256) (hn : n < 2 ^ 64) :
    Calls Tryz.prog 6 #[.int .u8 (h : Int), .int .u64 (n : Int)] w fun e w' => e = .returned (.bool true) ∧ Below w.heap.size w w' := by
  have hc : (h : Int) % 12 = 0 ∨ (h : Int) % 12 = 1 ∨ (h : Int) % 12 = 2 ∨ (h : Int) % 12 = 3 ∨ (h : Int) % 12 = 4 ∨ (h : Int) % 12 = 5 ∨ (h : Int) % 12 = 6 ∨ (h : Int) % 12 = 7 ∨ (h : Int) % 12 = 8 ∨ (h : Int) % 12 = 9 ∨ (h : Int) % 12 = 10 ∨ (h : Int) % 12 = 11 := by omega
  rcases hc with hc | hc | hc | hc | hc | hc | hc | hc | hc | hc | hc | hc
  · exact walk_0 h n b w hg hge hc hn
  · exact walk_1 h n b w hg hge hc hn
  · exact walk_2 h n b w hg hge hc hn
  · exact walk_3 h n b w hg hge hc hn
  · exact walk_4 h n b w hg hge hc hn
  · exact walk_5 h n b w hg hge hc hn
  · exact walk_6 h n b w hg hge hc hn
  · exact walk_7 h n b w hg hge hc hn
  · exact walk_8 h n b w hg hge hc hn
  · exact walk_9 h n b w hg hge hc hn
  · exact walk_10 h n b w hg hge hc hn
  · exact walk_11 h n b w hg hge hc hn
end Go.Proofs.YtngceccpebdgmaaGreatDoor.ckWords
