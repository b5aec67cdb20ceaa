/- withNum: the iterator over the fields with a Num. -/
import Derived.Test.YtjolgalfjahceaaGreatDoorRows2
namespace Go.Proofs.YtjolgalfjahceaaGreatDoor
open Go.RowKit Go.Shelf
attribute [local go_sem] Oper.semAt_some

/-- What a round keeps: two blocks. -/
def KpC (B C : Nat) (W W' : World) : Prop := W.heap.size ≤ W'.heap.size ∧ W'.heap[B]? = W.heap[B]? ∧ W'.heap[C]? = W.heap[C]?
theorem KpC.trans {B C : Nat} {X Y Z : World} (h : KpC B C X Y) (k : KpC B C Y Z) : KpC B C X Z := ⟨Nat.le_trans h.1 k.1, k.2.1.trans h.2.1, k.2.2.trans h.2.2⟩
theorem KpC.of_below {B C : Nat} {W W' : World} (hB : B < W.heap.size) (hC : C < W.heap.size) (h : Below W.heap.size W W') : KpC B C W W' := ⟨h.size, h.block B hB, h.block C hC⟩
theorem KpC.cellB {B C : Nat} {W W' : World} (h : KpC B C W W') (o : Nat) : W'.cell? ⟨B, o, none⟩ = W.cell? ⟨B, o, none⟩ := World.cell?_of_block h.2.1
theorem KpC.row {B C : Nat} {W W' : World} {fs : List Fd} (h : KpC B C W W') (hr : RowAt W C fs) : RowAt W' C fs :=
  ⟨Nat.lt_of_lt_of_le hr.1 h.1, fun i hi => by
    have e : ∀ o, W'.cell? ⟨C, o, none⟩ = W.cell? ⟨C, o, none⟩ := fun o => World.cell?_of_block h.2.2
    rw [e, e, e, e]; exact hr.2 i hi⟩

def hasNum (num : Int) (f : Fd) : Bool := decide ((f.num : Int) = num)
def withL (num : Int) (fs : List Fd) : List Fd := fs.filter (hasNum num)
theorem withL_yes {num : Int} {fs : List Fd} {k : Nat} (h : k < fs.length) (hp : ((fs[k].num : Nat) : Int) = num) : withL num (fs.take (k + 1)) = withL num (fs.take k) ++ [fs[k]] := by
  unfold withL; rw [List.take_succ_eq_append_getElem h, List.filter_append]; congr 1; simp [hasNum, hp]
theorem withL_no {num : Int} {fs : List Fd} {k : Nat} (h : k < fs.length) (hp : ¬ ((fs[k].num : Nat) : Int) = num) : withL num (fs.take (k + 1)) = withL num (fs.take k) := by
  unfold withL; rw [List.take_succ_eq_append_getElem h, List.filter_append]; simp [hasNum, hp]
theorem withL_len (num : Int) (fs : List Fd) (k : Nat) : (withL num (fs.take k)).length ≤ k :=
  Nat.le_trans (List.length_filter_le _ _) (List.length_take_le _ _)

set_option maxRecDepth 100000 in
set_option maxHeartbeats 2000000 in
theorem with1_in (n : Nat) (hn : 1 ≤ n) (l Bs Bn g cap L : Nat) (a0 : Option Addr) (ha : 0 < L → a0 = some ⟨g, 0, none⟩) (num : Int) (fs : List Fd) (hL : fs.length = L) (hLb : L ≤ 1099511627776) (J Jx : List Fd → World → Prop) (W : World) (hJ : AbidesFrom W.heap.size J)
    (hY : ∀ pre x W1, J pre W1 → pre.length < L + 1 → YieldAt Fence.wide (n - 1) Tryz.prog l #[.agg #[.int .i64 x.num, .int .i64 x.kind, .int .u64 x.n, .string ⟨x.s.toArray⟩]] W1 fun e W' =>
      (e = .returned (.bool true) ∧ J (pre ++ [x]) W' ∧ KpC Bn g W1 W') ∨ (e = .returned (.bool false) ∧ Jx (pre ++ [x]) W'))
    (hBs : W.cell? ⟨Bs, 0, none⟩ = some (.slice a0 L cap)) (hBn : W.cell? ⟨Bn, 0, none⟩ = some (.int .i64 num)) (hBl : Bn < W.heap.size) (hr : RowAt W g fs) (h0 : J [] W) :
    CallsIn Fence.wide n Tryz.prog 88 #[.func (.yield l) #[] #[], .pointer (some ⟨Bs, 0, none⟩), .pointer (some ⟨Bn, 0, none⟩)] W fun e W' => (∃ v, e = .returned v) ∧
      ((∃ xs, xs = withL num fs ∧ J xs W') ∨ (∃ pre, True ∧ Jx pre W')) := by
  have HL := Lib.hid hL; clear hL
  refine callsIn_of_wp Tryz.func88 rfl trivial ?_ rfl
  simp only [Tryz.ntmps88, List.size_toArray, List.length_cons, List.length_nil, Nat.reduceAdd, Nat.reduceSub, Array.replicate_succ, Array.replicate_zero, List.push_toArray, List.append_toArray, List.nil_append, List.cons_append]
  gi_wp2
  gi_loopw [8] (fun i wr => ∃ (k : Nat), i = .int .i64 k ∧ k ≤ L ∧ J (withL num (fs.take k)) wr ∧ wr.cell? ⟨Bn, 0, none⟩ = some (.int .i64 num) ∧ Bn < wr.heap.size ∧ RowAt wr g fs) (fun i _ => L - (intOf i).toNat)
  case atStart => exact ⟨0, rfl, by omega, by simpa [withL] using h0, hBn, hBl, hr⟩
  case round =>
    clear h0 hBs hBn hBl hr
    obtain ⟨k, rfl, hk, hJs, hc, hlt, hr⟩ := hrel
    have HR := Lib.hid hr; clear hr
    by_cases hks : k < L
    · have e0 := ha (by omega)
      subst e0
      clear ha
      have hkf : k < fs.length := by have := HL.out; omega
      obtain ⟨p0, p1, p2, p3⟩ := HR.out.2 k hkf
      have hgl := HR.out.1
      have HW := Lib.hid (fun hp => withL_yes (num := num) hkf hp)
      have HW2 := Lib.hid (fun hp => withL_no (num := num) hkf hp)
      have hpl := withL_len num fs k
      generalize fs[k] = f at p0 p1 p2 p3 HW HW2
      have hJ1 := hJ _ _ _ none hJs (grown_of_below ((Below.refl wr.heap.size wr).alloc (Nat.le_refl _) (.cells #[.int .i64 f.num, .int .i64 f.kind, .int .u64 f.n, .string ⟨f.s.toArray⟩] 62))) (by simp)
      have hkp := KpC.of_below (W := wr) hlt hgl ((Below.refl wr.heap.size wr).alloc (Nat.le_refl _) (.cells #[.int .i64 f.num, .int .i64 f.kind, .int .u64 f.n, .string ⟨f.s.toArray⟩] 62))
      have b1 : (k : Int) < (L : Int) := by omega
      by_cases hp : ((f.num : Nat) : Int) = num
      · obtain ⟨fn, tmps, assign, body, hy, hR⟩ := hY _ f _ hJ1 (by omega)
        have HP := Lib.hid hp
        have hpb : (((f.num : Nat) : Int) == num) = true := by simpa using hp
        clear hp hJ1 hkf
        gi_wp2
        refine hR.mono ?_
        rintro e W3 (⟨rfl, hJ3, hk3⟩ | ⟨rfl, hJx3⟩)
        · have hk4 := hkp.trans hk3
          gi_wp2
          go_roundw
          case rel => exact ⟨k + 1, by go_num, by omega, by rw [HW.out HP.out]; exact hJ3, (hk4.cellB 0).trans hc, Nat.lt_of_lt_of_le hlt hk4.1, hk4.row HR.out⟩
          case measure => simp [intOf]; omega
        · gi_wp2
          refine bodyPost_ret (results_none rfl _ _ _) rfl ?_
          exact ⟨⟨_, rfl⟩, .inr ⟨_, trivial, hJx3⟩⟩
      · have hpb : (((f.num : Nat) : Int) == num) = false := by simpa using hp
        have HP := Lib.hid hp
        clear hp hkf
        gi_wp2
        refine ⟨fun _ h => (by cases h), ?_⟩
        gi_wp2
        go_roundw
        case rel => exact ⟨k + 1, by go_num, by omega, by rw [HW2.out HP.out]; exact hJ1, (hkp.cellB 0).trans hc, Nat.lt_of_lt_of_le hlt hkp.1, hkp.row HR.out⟩
        case measure => simp [intOf]; omega
    · gi_wp2
      go_end0
      have he : fs.take k = fs := List.take_of_length_le (by have := HL.out; omega)
      exact ⟨⟨_, rfl⟩, .inl ⟨_, rfl, by rw [he] at hJs; exact hJs⟩⟩
end Go.Proofs.YtjolgalfjahceaaGreatDoor
