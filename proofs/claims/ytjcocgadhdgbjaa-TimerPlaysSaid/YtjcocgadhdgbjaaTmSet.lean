/- timer: the calls. -/
import Derived.Test.YtjcocgadhdgbjaaTmL
import Derived.Test.YtjcocgadhdgbjaaShelf
namespace Go.Proofs.Ytjcocgadhdgbjaa
open Go.RowKit

theorem Try.mLenQ (n : Nat) (v : Value) (w : World) : (Go.method (n + 1) 52 v "Len").run Try.prog w = .ok (41, v) w := Try.mLen n v w
theorem Try.mFind (n : Nat) (v : Value) (w : World) : (Go.method (n + 1) 52 v "noria/timer.find").run Try.prog w = .ok (42, v) w := by kernel_rfl
theorem Try.mLook (n : Nat) (v : Value) (w : World) : (Go.method (n + 1) 52 v "noria/timer.look").run Try.prog w = .ok (43, v) w := by kernel_rfl
theorem Try.mTake (n : Nat) (v : Value) (w : World) : (Go.method (n + 1) 52 v "noria/timer.take").run Try.prog w = .ok (45, v) w := by kernel_rfl
theorem Try.mPut (n : Nat) (v : Value) (w : World) : (Go.method (n + 1) 52 v "noria/timer.put").run Try.prog w = .ok (44, v) w := by kernel_rfl

theorem Try.fldT (a b c : Value) (w : World) : (Instr.field 64 (.agg #[a, b, c]) 1).run Try.prog w = .ok b w := by kernel_rfl
theorem Try.fldId (a b c : Value) (w : World) : (Instr.field 64 (.agg #[a, b, c]) 0).run Try.prog w = .ok a w := by kernel_rfl
/-- What a call leaves: the timers L', over blocks of before or new ones. -/
def TmPost (base t : Nat) (F : Nat → Prop) (N : Nat) (L' : List Tm) (r : Value) (w : World) (e : Ending) (w' : World) : Prop := ∃ F', e = .returned r ∧ TmAt base t F' N L' w' ∧ Kept F w w' ∧ ∀ k, F' k → F k ∨ w.heap.size ≤ k

theorem len_any (base t N : Nat) (F : Nat → Prop) (L : List Tm) (w : World) (h : TmAt base t F N L w) :
    Calls Try.prog 21 #[.pointer (some ⟨t, 0, none⟩)] w fun e w' => e = .returned (.int .i64 (L.length : Int)) ∧ w = w' := by
  obtain ⟨p, m, v, hh, T, LE, hb, hq, hperm, rfl, _⟩ := h
  have k0 : w.cell? ⟨t, 0, none⟩ = some (.iface 52 (.pointer (some ⟨p, 0, none⟩))) := hb.cell 0
  have m1 := Try.mLenQ
  have hl : hh.length = (LE.map En.tm).length := by rw [List.length_map]; exact hperm.length_eq
  have HQ := Lib.hid (And.intro hq hl)
  clear hq hl hperm hb
  go_enter Try.func21, Try.ntmps21
  go_wp2_with fail
  refine (plen_any base p m v hh hh w HQ.out.1.at_).mono ?_
  rintro e w' ⟨rfl, rfl⟩
  rw [HQ.out.2]
  go_wp2
  go_ret
  refine ⟨?_, rfl⟩
  rw [List.length_map]; rfl

/-- Where an id stands. -/
theorem find_cases {base t N : Nat} {F : Nat → Prop} {L : List Tm} {w : World} (h : TmAt base t F N L w) (id : List UInt8) :
    (atL L id = none ∧ dropL L id = L) ∨ ∃ x, atL L id = some x := by
  cases ha : atL L id with
  | some x => exact .inr ⟨x, rfl⟩
  | none =>
    obtain ⟨p, m, v, hh, T, LE, hb, hq, hperm, rfl, _⟩ := h
    refine .inl ⟨rfl, drop_none fun e he e1 => ?_⟩
    subst e1
    have := atL_some (LE := LE) (e := e) ((hperm.map En.id).nodup_iff.1 hq.ids.1) he
    rw [this] at ha; cases ha

set_option maxRecDepth 100000 in
theorem at_any (base t N : Nat) (F : Nat → Prop) (L : List Tm) (id : ByteArray) (w : World) (h : TmAt base t F N L w) (hs : id.size ≤ 140737488355328) :
    Calls Try.prog 15 #[.pointer (some ⟨t, 0, none⟩), .string id] w fun e w' => e = .returned (.tuple #[.int .u64 (((atL L id.data.toList).getD 0 : Nat) : Int), .bool (atL L id.data.toList).isSome]) ∧ Below w.heap.size w w' := by
  obtain ⟨p, m, v, hh, T, LE, hb, hq, hperm, rfl, _, _, _, _, _, hlen⟩ := h
  have k0 : w.cell? ⟨t, 0, none⟩ = some (.iface 52 (.pointer (some ⟨p, 0, none⟩))) := hb.cell 0
  have m1 := Try.mFind
  have m2 := Try.mLook
  have m3 := Try.fldT
  have hnd := (hperm.map En.id).nodup_iff.1 hq.ids.1
  have hl : hh.length ≤ 1025 := by rw [List.length_map] at hlen; rw [hperm.length_eq]; omega
  have hid : (⟨id.data.toList.toArray⟩ : ByteArray) = id := by simp
  have hs' : id.data.toList.length ≤ 140737488355328 := by rw [Array.length_toList]; exact hs
  have hfind := fun W (q : PileAt base p m v hh hh W) => find_pl base p m v hh hh id.data.toList W q hs'
  rw [hid] at hfind
  rcases plC_cases hh id.data.toList with ⟨i, hi, hie⟩ | hno
  · have e1 := plC_at hq.ids hi
    rw [hie] at e1
    have e2 := atL_some hnd (hperm.mem_iff.1 (List.mem_of_getElem? (gt_some hi)))
    rw [hie] at e2
    rw [e1] at hfind
    rw [e2]
    have HQ := Lib.hid (And.intro hq hfind)
    clear hq hperm hb hfind e1 e2 hie hs' hs hid hnd hlen
    go_enter Try.func15, Try.ntmps15
    go_wp2_with fail
    refine (HQ.out.2 w HQ.out.1.at_).mono ?_
    rintro e w' ⟨rfl, rfl⟩
    go_wp2_with fail
    refine (look_any base p m v hh hh i w HQ.out.1.at_ hi hl).mono ?_
    rintro e w' ⟨rfl, hb'⟩
    go_wp2
    go_ret2
    exact ⟨rfl, hb'⟩
  · have e1 := plC_no hno
    have e2 := atL_none (LE := LE) (id := id.data.toList) (fun e he => by
      obtain ⟨i, hi, rfl⟩ := mem_gt (hperm.mem_iff.2 he)
      exact hno i hi)
    rw [e1] at hfind
    rw [e2]
    have HQ := Lib.hid (And.intro hq hfind)
    clear hq hl hperm hb hfind e1 e2 hs' hs hid hnd hno hlen
    go_enter Try.func15, Try.ntmps15
    go_wp2_with fail
    refine (HQ.out.2 w HQ.out.1.at_).mono ?_
    rintro e w' ⟨rfl, rfl⟩
    go_wp2
    go_ret2
    exact ⟨rfl, Below.refl _ _⟩

theorem nx_next {w W W' : World} {B : Nat} {x y : Value} (h : W.cell? ⟨B, 0, none⟩ = some x ∧ W.cell? ⟨B, 1, none⟩ = some y ∧ B < W.heap.size ∧ Below w.heap.size w W) (hb : Below W.heap.size W W') : W'.cell? ⟨B, 0, none⟩ = some x ∧ W'.cell? ⟨B, 1, none⟩ = some y ∧ B < W'.heap.size ∧ Below w.heap.size w W' :=
  ⟨(hb.cell (p := ⟨B, 0, none⟩) h.2.2.1).trans h.1, (hb.cell (p := ⟨B, 1, none⟩) h.2.2.1).trans h.2.1, Nat.lt_of_lt_of_le h.2.2.1 hb.size, h.2.2.2.trans (hb.mono h.2.2.2.size)⟩
set_option maxRecDepth 100000 in
theorem next_none (base t N : Nat) (F : Nat → Prop) (w : World) (h : TmAt base t F N [] w) :
    Calls Try.prog 19 #[.pointer (some ⟨t, 0, none⟩)] w fun e w' => e = .returned (.tuple #[.string ⟨#[]⟩, .int .u64 0, .bool false]) ∧ w = w' := by
  go_enter Try.func19, Try.ntmps19
  go_wp2_with fail
  refine (len_any base t N F [] w h).mono ?_
  rintro e w' ⟨rfl, rfl⟩
  go_wp2
  go_ret3
  exact ⟨rfl, rfl⟩
set_option maxHeartbeats 1000000 in
set_option maxRecDepth 100000 in
theorem next_some (base t N : Nat) (F : Nat → Prop) (L : List Tm) (x : Tm) (w : World) (h : TmAt base t F N L w) (hx : nextL L = some x) :
    Calls Try.prog 19 #[.pointer (some ⟨t, 0, none⟩)] w fun e w' => e = .returned (.tuple #[.string ⟨x.1.toArray⟩, .int .u64 (x.2 : Int), .bool true]) ∧ Below w.heap.size w w' := by
  have hlen := len_any base t N F L w h
  have hL0 : ((L.length : Int) == 0) = false := by cases L with
    | nil => simp [nextL] at hx
    | cons a r => simp; omega
  obtain ⟨p, m, v, hh, T, LE, hb, hq, hperm, hmap, hpw, _, _, _, _, hl⟩ := h
  have k0 : w.cell? ⟨t, 0, none⟩ = some (.iface 52 (.pointer (some ⟨p, 0, none⟩))) := hb.cell 0
  have m2 := Try.mLook
  have hpos : 0 < hh.length := by
    rw [hperm.length_eq]
    cases LE with
    | nil => subst hmap; simp [nextL] at hx
    | cons a r => simp
  have hln : hh.length ≤ 1025 := by rw [hperm.length_eq]; rw [← hmap, List.length_map] at hl; omega
  have hn := heap_next hq.hp hperm hpw hpos
  have hx' : x = (gt hh 0).tm := by rw [← hmap, nextL_map, hn] at hx; exact (Option.some.inj hx).symm
  have hid := hq.ids.at hpos
  have HQ := Lib.hid (And.intro (And.intro hq hlen) (And.intro hx' hid))
  clear hq hlen hx' hid hx hmap hperm hpw hn hb hl
  go_enter Try.func19, Try.ntmps19
  go_wp2_with fail
  refine HQ.out.1.2.mono ?_
  rintro e w' ⟨rfl, rfl⟩
  go_wp2_with fail
  refine (look_any base p m v hh hh 0 w HQ.out.1.1.at_ hpos hln).mono ?_
  rintro e w1 ⟨rfl, hb1⟩
  have hsz : (⟨(gt hh 0).id.toArray⟩ : ByteArray).size ≤ 140737488355328 := by have := HQ.out.2.2; show (gt hh 0).id.toArray.size ≤ _; rw [List.size_toArray]; omega
  generalize hE : gt hh 0 = e at *
  have HE := Lib.hid (And.intro hE hsz)
  clear hE hsz
  go_wp2_with fail
  have ST : Below w.heap.size w ((w1.alloc (.cells #[.string ⟨e.id.toArray⟩, .int .u64 (e.t : Int), .int .u64 (e.k : Int)] 64)).drew) := hb1.trans ((((Below.refl _ _).alloc (Nat.le_refl _) _).drew).mono hb1.size)
  have c0 : ((w1.alloc (.cells #[.string ⟨e.id.toArray⟩, .int .u64 (e.t : Int), .int .u64 (e.k : Int)] 64)).drew).cell? ⟨w1.heap.size, 0, none⟩ = some (.string ⟨e.id.toArray⟩) := (Blk.new w1 _ _).cell 0
  have c1 : ((w1.alloc (.cells #[.string ⟨e.id.toArray⟩, .int .u64 (e.t : Int), .int .u64 (e.k : Int)] 64)).drew).cell? ⟨w1.heap.size, 1, none⟩ = some (.int .u64 (e.t : Int)) := (Blk.new w1 _ _).cell 1
  go_region_held3 (fun w' => w'.cell? ⟨w1.heap.size, 0, none⟩ = some (.string ⟨e.id.toArray⟩) ∧ w'.cell? ⟨w1.heap.size, 1, none⟩ = some (.int .u64 (e.t : Int)) ∧ w1.heap.size < w'.heap.size ∧ Below w.heap.size w w') (first | exact ⟨c0, c1, by simp, ST⟩ | exact nx_next (by assumption) (by assumption) | go_keep) ((go_at_call 23; refine (clone_any _ _ HE.out.2).mono ?_; rintro e w' ⟨rfl, hb'⟩))
  all_goals
    rename_i hS
    have HS := Lib.hid hS
    go_wp2
    go_ret3
    exact ⟨by rw [HQ.out.2.1]; rfl, HS.out.2.2.2⟩
end Go.Proofs.Ytjcocgadhdgbjaa
