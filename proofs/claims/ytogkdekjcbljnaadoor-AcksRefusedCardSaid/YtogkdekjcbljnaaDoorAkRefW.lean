/- acks: AcksRefused walked (tools/akrefw_gen.py). -/
import Derived.Test.YtogkdekjcbljnaaDoorAkRfP
import Derived.Test.YtogkdekjcbljnaaDoorAkCell
import Derived.Test.YtogkdekjcbljnaaDoorAkBytes
namespace Go.Proofs.YtogkdekjcbljnaaDoor
open Go.RowKit

/-- An Acks of which nothing is noted, or what is refused of one key. -/
def RefA (A : Ak) (RR : List Bd) : Prop := (A = Ak.zero ∧ RR = []) ∨ One A (1, nm1 107) (fun _ => 0) RR 0
theorem RefA.put {A : Ak} {RR : List Bd} (h : RefA A RR) (i : Int) (q : Nat) (s : ByteArray) : RefA (A.put (1, nm1 107) i q false s) (bdIns q s RR) := by
  rcases h with ⟨rfl, rfl⟩ | h
  · have h1 := one_first (1, nm1 107) i q false s
    exact .inr h1
  · exact .inr (h.refuse i q s)
theorem RefA.ready {A : Ak} {RR : List Bd} (h : RefA A RR) : A.out (1, nm1 107) [] = bdOut (1, nm1 107) RR ∧ RefA (A.ready (1, nm1 107) []) (bdTell RR) := by
  rcases h with ⟨rfl, rfl⟩ | h
  · refine ⟨rfl, .inl ⟨?_, rfl⟩⟩
    show ({ Ak.zero with R := upd (fun _ => []) _ [] } : Ak) = Ak.zero
    have e : upd (fun _ : Ky => ([] : List Bd)) (1, nm1 107) [] = fun _ => [] := upd_self (fun _ : Ky => ([] : List Bd)) (1, nm1 107)
    rw [e]; rfl
  · have h1 := h.out []
    have h2 := h.ready []
    rw [show leastL (fun _ : Int => 0) [] = 0 from rfl, if_neg (by decide)] at h1 h2
    rw [List.append_nil] at h1
    exact ⟨h1, .inr h2⟩
set_option maxRecDepth 100000 in
set_option maxHeartbeats 8000000 in
theorem refused_walk (a : Option Addr) (LL c : Nat) (bs : List Nat) (g n : Addr) (W : World) (hg : Gv g W) (hn : Gn n W) (hLL : bs.length = LL) (hlen : LL ≤ maxLen) (hin : NatsIn W a bs) (hbs : ∀ n ∈ bs, n < 256) :
    Calls Tryd.prog 5 #[.slice a LL c] W fun e w' => e = .returned (.bool true) ∧ Below W.heap.size W w' := by
  have hlen' : LL ≤ 9223372036854775807 := hlen
  have HLL := Lib.hid hLL
  have HIN := Lib.hid hin
  have HBS := Lib.hid hbs
  clear hLL hin hbs hlen
  have HG := Lib.hid (And.intro hg hn)
  clear hg hn
  go_enter Tryd.func5, Tryd.ntmps5
  go_wp2_with fail
  refine (ak_examples g n W HG.out.1 HG.out.2).mono ?_
  rintro e wB ⟨rfl, hb⟩
  dsimp only
  have HG := Lib.hid (And.intro (HG.out.1.below hb) (HG.out.2.later hb))
  have HBB := Lib.hid hb
  clear hb
  go_wp2_with fail
  refine (AkL.new (W := W) HG.out.1 HG.out.2 HBB.out).mono ?_
  rintro e w1 ⟨b, rfl, hl, -⟩
  dsimp only
  have HL := Lib.hid hl
  have HL0 := HL
  clear hl
  obtain ⟨x1, hw, hb, hq⟩ := ak_new w1 #[.int .i64 1, .string ⟨#[107]⟩] 27
  have HL := Lib.hid (HL.out.later hb)
  have HQ := Lib.hid hq
  have HW2 := Lib.hid hw
  clear hw hb hq
  obtain ⟨R, hR⟩ : ∃ R, w1.heap.size = R := ⟨_, rfl⟩
  rw [hR] at HQ
  have HRR := Lib.hid hR
  have HRW := Lib.hid (show wB.heap.size ≤ R by rw [← hR]; exact Nat.le_trans (by have := HL0.out.i.hB; exact this) (Nat.le_refl _))
  have HRL := Lib.hid HQ.out.lt
  have hmk := make_met x1
  obtain ⟨x3, hw, hb, hq⟩ := ak_new x1 (mtV fun _ => false) 4
  have HL := Lib.hid (HL.out.later hb)
  have HQ := Lib.hid (HQ.out.later hb)
  have HM := Lib.hid hq
  have HW4 := Lib.hid hw
  clear hw hb hq
  go_wp2_with (first | rw [HW2.out] | rw [HW4.out])
  clear hR HRR HW2 HW4 hmk
  obtain ⟨MB, hMB⟩ : ∃ MB, x1.heap.size = MB := ⟨_, rfl⟩
  have HNE := Lib.hid (show R ≠ MB ∧ wB.heap.size ≤ MB by rw [← hMB]; exact ⟨Nat.ne_of_lt HRL.out, Nat.le_trans HRW.out (Nat.le_of_lt HRL.out)⟩)
  rw [hMB] at HM ⊢
  clear hMB HRW HRL
  go_loopw [7, 8, 9, 10] (fun vm vi _ _ wr => ∃ (i many v : Nat) (met : Nat → Bool) (A : Ak) (RR : List Bd), vi = .int .i64 (i : Int) ∧ vm = .int .i64 (many : Int) ∧ i ≤ 20 ∧ i ≤ LL ∧ many ≤ i ∧ (∀ x, met x = true → 1 ≤ x ∧ x ≤ 30) ∧ RefP met many RR ∧ RefA A RR ∧ AkL wB.heap.size b A g n W wr ∧ Blk wr R #[.int .i64 1, .string ⟨#[107]⟩] 27 ∧ Blk wr MB (mtV met) 4) (fun _ vi _ _ _ => 20 - (intOf vi).toNat)
  case atStart => exact ⟨0, 0, 0, fun _ => false, Ak.zero, [], rfl, rfl, by omega, Nat.zero_le _, Nat.le_refl _, fun x h => (by cases h), ref_zero, .inl ⟨rfl, rfl⟩, HL.out, HQ.out, HM.out⟩
  case round =>
    clear HL HQ HM
    obtain ⟨i, many, v, met, A, RR, rfl, rfl, hi20, hiL, hmany, hmet, href, hra, hl, hq, hm⟩ := hrel
    have HL := Lib.hid hl
    have HQ := Lib.hid hq
    have HM := Lib.hid hm
    have HREF := Lib.hid href
    have HRA := Lib.hid hra
    have HMET := Lib.hid hmet
    have HMANY := Lib.hid hmany
    clear hl hq hm href hra hmet hmany v
    by_cases hlt : i < LL ∧ i < 20
    · obtain ⟨hl1, hl2⟩ := hlt
      have b1 : (i : Int) < (LL : Int) := by omega
      have b2 : (i : Int) < 20 := by omega
      have b3 : (0 : Int) ≤ (i : Int) := by omega
      have b4 : IntKind.i64.wrap ((i : Int) + 1) = (i : Int) + 1 := by rw [IntKind.wrap_i64]; omega
      have hmi := HMANY.out
      have b5 : IntKind.i64.wrap ((many : Int) + 1) = (many : Int) + 1 := by rw [IntKind.wrap_i64]; omega
      obtain ⟨x, hx⟩ : ∃ x, bs[i]? = some x := ⟨_, List.getElem?_eq_getElem (by have := HLL.out; omega)⟩
      have hx256 := HBS.out x (List.mem_of_getElem? hx)
      obtain ⟨ab, ao, rfl, hal, hac⟩ := (HIN.out.below HL.out.k) i x hx
      obtain ⟨κ, hκ⟩ : ∃ κ, x % 30 = κ := ⟨_, rfl⟩
      have d1 : (x : Int).tmod 30 = (κ : Int) := by rw [Int.tmod_eq_emod_of_nonneg (by omega)]; omega
      have d2 : (x : Int) % 30 = (κ : Int) := by omega
      have d3 : IntKind.u8.wrap (κ : Int) = (κ : Int) := by rw [show IntKind.u8.wrap (κ : Int) = (κ : Int) % 256 from rfl]; omega
      have d4 : IntKind.i64.wrap (κ : Int) = (κ : Int) := by rw [IntKind.wrap_i64]; omega
      obtain ⟨q, hq⟩ : ∃ q, 1 + κ = q := ⟨_, rfl⟩
      have hqb : 1 ≤ q ∧ q ≤ 30 := by omega
      have f1 : IntKind.i64.wrap (1 + (κ : Int)) = (q : Int) := by rw [IntKind.wrap_i64]; omega
      have f2 : IntKind.u64.wrap (q : Int) = (q : Int) := by rw [show IntKind.u64.wrap (q : Int) = (q : Int) % 18446744073709551616 from rfl]; omega
      have f3 : (0 : Int) ≤ (q : Int) := by omega
      have f4 : (q : Int) < 31 := by omega
      obtain ⟨ρ, hρ⟩ : ∃ ρ, i % 3 = ρ := ⟨_, rfl⟩
      have g1 : (i : Int).tmod 3 = (ρ : Int) := by rw [Int.tmod_eq_emod_of_nonneg (by omega)]; omega
      have g2 : (i : Int) % 3 = (ρ : Int) := by omega
      have g3 : IntKind.i64.wrap (ρ : Int) = (ρ : Int) := by rw [IntKind.wrap_i64]; omega
      have g4 : IntKind.i64.wrap (1 + (ρ : Int)) = 1 + (ρ : Int) := by rw [IntKind.wrap_i64]; omega
      have hidb : 1 ≤ (1 + (ρ : Int)) ∧ (1 + (ρ : Int)) ≤ 32 := by omega
      have z0 : wr.cell? ⟨MB, q, none⟩ = some (.bool (met q)) := by rw [HM.out.cell q, mtV_get met (by omega)]
      have z1 : wr.frozen? ⟨MB, q, none⟩ = false := HM.out.frozen q
      have hq2 := HQ.out.kept (grown_set wr MB q (.bool true)) (fun e => HNE.out.1 (Option.some.inj e))
      have hm2 := HM.out.set q (.bool true)
      rw [mtV_set] at hm2
      have HL2 := Lib.hid (HL.out.set HM.out (by decide) (by decide) HNE.out.2 q (.bool true))
      have HQ2 := Lib.hid hq2
      have HM2 := Lib.hid hm2
      have y0 : (wr.setCell ⟨MB, q, none⟩ (.bool true)).cell? ⟨R, 0, none⟩ = some (.int .i64 1) := HQ2.out.cell 0
      have y1 : (wr.setCell ⟨MB, q, none⟩ (.bool true)).cell? ⟨R, 1, none⟩ = some (.string ⟨#[107]⟩) := HQ2.out.cell 1
      have HPUT := Lib.hid (fun (s : ByteArray) (hs : s.size ≤ 256) => HL2.out.put (id := 1 + (ρ : Int)) (t := 1) (x := nm1 107) (q := q) (f := false) (s := s) (stOk_one 1 107 q false s (by decide) (by decide) (by decide) (by omega) hs (fun h => by cases h)) hidb (by omega))
      have HNX := Lib.hid (fun (s : ByteArray) => And.intro (ref_step (s := s) HREF.out (q := q) (by omega)) (HRA.out.put (1 + (ρ : Int)) q s))
      have HMB2 := Lib.hid (show ∀ x, upd met q true x = true → 1 ≤ x ∧ x ≤ 30 from fun x hx => by
        by_cases e : x = q
        · subst e; exact hqb
        · rw [upd_other e] at hx; exact HMET.out x hx)
      have HI := Lib.hid (show i + 1 ≤ 20 ∧ i + 1 ≤ LL ∧ many ≤ i from by omega)
      clear hq2 hm2 hqb hq hκ hx hx256 hal hρ hidb hmi
      obtain ⟨mq, hmq⟩ : ∃ mq, met q = mq := ⟨_, rfl⟩
      rw [hmq] at z0 HNX
      clear hmq
      cases mq with
      | true =>
        have HP := Lib.hid (HPUT.out ⟨#[97, 103, 97, 105, 110]⟩ (by decide))
        go_wp2_with fail
        refine HP.out.mono ?_
        rintro e w5 ⟨rfl, hl, hk⟩
        dsimp only
        have HL3 := Lib.hid hl
        have HQ3 := Lib.hid (hk.blk HQ2.out (by decide))
        have HM3 := Lib.hid (hk.blk HM2.out (by decide))
        clear hl hk y0 y1 z0 z1 hac
        go_wp2_with fail
        go_roundw
        case rel => exact ⟨i + 1, many, 0, _, _, _, by go_num, rfl, HI.out.1, HI.out.2.1, by have := HI.out.2.2; omega, HMB2.out, (HNX.out _).1, (HNX.out _).2, HL3.out, HQ3.out, HM3.out⟩
        case measure => have := HI.out.1; simp [intOf]; omega
      | false =>
        have HP := Lib.hid (HPUT.out ⟨#[102, 105, 114, 115, 116]⟩ (by decide))
        go_wp2_with fail
        refine HP.out.mono ?_
        rintro e w5 ⟨rfl, hl, hk⟩
        dsimp only
        have HL3 := Lib.hid hl
        have HQ3 := Lib.hid (hk.blk HQ2.out (by decide))
        have HM3 := Lib.hid (hk.blk HM2.out (by decide))
        clear hl hk y0 y1 z0 z1 hac
        go_wp2_with fail
        go_roundw
        case rel => exact ⟨i + 1, many + 1, 0, _, _, _, by go_num, by go_num, HI.out.1, HI.out.2.1, by have := HI.out.2.2; omega, HMB2.out, (HNX.out _).1, (HNX.out _).2, HL3.out, HQ3.out, HM3.out⟩
        case measure => have := HI.out.1; simp [intOf]; omega
    · have hh : ¬ (i : Int) < (LL : Int) ∨ ((i : Int) < (LL : Int) ∧ ¬ (i : Int) < 20) := by omega
      have y0 : wr.cell? ⟨R, 0, none⟩ = some (.int .i64 1) := HQ.out.cell 0
      have y1 : wr.cell? ⟨R, 1, none⟩ = some (.string ⟨#[107]⟩) := HQ.out.cell 1
      have hrd := HL.out.ready (k := (1, nm1 107)) (a := none) (c := 0) (l := []) (kyK_one 1 107 (by decide) (by decide)) (by decide) (fun w' hk i x h => by cases h) (Nat.zero_le _) (fun x hx => by cases hx)
      rw [HRA.out.ready.1, out_all HREF.out.f] at hrd
      obtain ⟨OL, hOL⟩ : ∃ OL, (RR.map fun b => (⟨1, nm1 107, b.q, false, b.s⟩ : St)) = OL := ⟨_, rfl⟩
      have hOLl : OL.length = RR.length := by rw [← hOL, List.length_map]
      obtain ⟨N, hN⟩ : ∃ N, RR.length = N := ⟨_, rfl⟩
      rw [hN] at hOLl
      have HOL := Lib.hid (show ∀ (j : Nat) (b : Bd), RR[j]? = some b → OL[j]? = some ⟨1, nm1 107, b.q, false, b.s⟩ from fun j b hb => by rw [← hOL, List.getElem?_map, hb]; rfl)
      have HRD := Lib.hid (show Calls Tryd.prog 10 #[.pointer (some ⟨b.m, 0, none⟩), kyE (1, nm1 107), .slice none 0 0] wr fun e w' => ∃ a' c', e = .returned (.slice a' N c') ∧ OutAt wr.heap.size (.slice a' N c') OL w' ∧ AkL wB.heap.size b (A.ready (1, nm1 107) []) g n W w' ∧ KeptA b wB.heap.size wr w' from by
        rw [← hOLl, ← hOL]; exact hrd)
      have hNm := HREF.out.e
      rw [hN] at hNm
      have e1 : min (many : Int) 8 = (N : Int) := by omega
      have hN8 : N ≤ 8 := by omega
      have e2 : IntKind.i64.wrap ((N : Int) - 1) = (N : Int) - 1 := by rw [IntKind.wrap_i64]; omega
      have HRR := Lib.hid (show (Rise RR ∧ ∀ b ∈ RR, met b.q = true) ∧ RR.length = N from ⟨⟨HREF.out.ok.2.1, HREF.out.m⟩, hN⟩)
      have HOLL := Lib.hid hOLl
      clear hrd hOL hOLl hN hNm hlt
      rcases hh with b1 | ⟨b1, b2⟩
      all_goals
        go_wp2_with fail
        refine HRD.out.mono ?_
        rintro e w5 ⟨ra, rc, rfl, ho, hl, hk⟩
        dsimp only
        have HL := Lib.hid hl
        have HO := Lib.hid ho
        have HQ := Lib.hid (hk.blk HQ.out (by decide))
        have HM := Lib.hid (hk.blk HM.out (by decide))
        have HRA2 := Lib.hid HRA.out.ready.2
        clear ho hl hk y0 y1 HRD b1 HIN HBS HLL HRA HMANY
        go_wp2_with fail
        go_loopw [12, 13] (fun vs vi wx => wx = w5 ∧ ∃ (j s : Nat) (z : Int), vi = .int .i64 z ∧ vs = .int .i64 (s : Int) ∧ z = (j : Int) - 1 ∧ j ≤ N ∧ s ≤ 30 ∧ (∀ b, RR[j]? = some b → s + 1 = b.q) ∧ (j = N → s = 30)) (fun _ vi _ => (intOf vi + 1).toNat)
        case atStart => exact ⟨rfl, N, 30, _, rfl, rfl, rfl, Nat.le_refl _, Nat.le_refl _, fun b hb => (by rw [List.getElem?_eq_none (by have := HRR.out.2; omega)] at hb; cases hb), fun _ => rfl⟩
        case round =>
          obtain ⟨rfl, j, s, z, rfl, rfl, hz, hjN, hs30, hnext, hlast⟩ := hrel
          by_cases hj0 : j = 0
          · obtain rfl : z = -1 := by omega
            have b1 : ¬ (0 : Int) ≤ -1 := by omega
            have y0 : wr.cell? ⟨R, 0, none⟩ = some (.int .i64 1) := HQ.out.cell 0
            have y1 : wr.cell? ⟨R, 1, none⟩ = some (.string ⟨#[107]⟩) := HQ.out.cell 1
            have hrd := HL.out.ready (k := (1, nm1 107)) (a := none) (c := 0) (l := []) (kyK_one 1 107 (by decide) (by decide)) (by decide) (fun w' hk i x h => by cases h) (Nat.zero_le _) (fun x hx => by cases hx)
            rw [HRA2.out.ready.1, out_none] at hrd
            have HRD := Lib.hid hrd
            clear hrd hz hnext hlast hjN hs30 hj0
            go_wp2_with fail
            refine HRD.out.mono ?_
            rintro e w7 ⟨ra2, rc2, rfl, -, hl, -⟩
            dsimp only
            have HE := Lib.hid hl.k
            clear hl y0 y1
            go_wp2_with fail
            go_ret
            exact ⟨rfl, HE.out⟩
          · obtain ⟨j', rfl⟩ : ∃ j', j = j' + 1 := ⟨j - 1, by omega⟩
            obtain rfl : z = (j' : Int) := by omega
            obtain ⟨bd, hbd⟩ : ∃ bd, RR[j']? = some bd := ⟨_, List.getElem?_eq_getElem (by have := HRR.out.2; omega)⟩
            have hbm := HRR.out.1.2 bd (List.mem_of_getElem? hbd)
            have hb30 := HMET.out _ hbm
            have hbs' : bd.q ≤ s := by
              by_cases hjn : j' + 1 = N
              · rw [hlast hjn]; exact hb30.2
              · obtain ⟨cd, hcd⟩ : ∃ cd, RR[j' + 1]? = some cd := ⟨_, List.getElem?_eq_getElem (by have := HRR.out.2; omega)⟩
                have h1 := HRR.out.1.1.lt hbd hcd (Nat.lt_succ_self _)
                have h2 := hnext cd hcd
                omega
            have hgap : ∀ x, met x = true → bd.q < x → x ≤ s → False := fun x hx h1 h2 => by
              obtain ⟨cd, hcd, h3⟩ := ref_gap HREF.out hbd hx h1
              have := hnext cd hcd
              omega
            have ho := HO.out
            rw [← HOLL.out] at ho
            obtain ⟨gg, hga, -, -, p2, p3, -⟩ := ho.at' (HOL.out j' bd hbd)
            cases hga
            simp only at p2 p3
            have HBD := Lib.hid (And.intro hbm (And.intro hbs' hgap))
            have HNXT := Lib.hid (And.intro hnext hlast)
            have b1 : (0 : Int) ≤ (j' : Int) := by omega
            have b2 : (j' : Int) < (N : Int) := by omega
            have b3 : IntKind.i64.wrap ((j' : Int) - 1) = (j' : Int) - 1 := by rw [IntKind.wrap_i64]; omega
            have b4 : IntKind.u64.wrap (bd.q : Int) = (bd.q : Int) := by rw [show IntKind.u64.wrap (bd.q : Int) = (bd.q : Int) % 18446744073709551616 from rfl]; omega
            have b5 : IntKind.i64.wrap ((bd.q : Int) - 1) = (bd.q : Int) - 1 := by rw [IntKind.wrap_i64]; omega
            have HBQ := Lib.hid hb30
            have HBD2 := Lib.hid hbd
            obtain ⟨Q, hQ⟩ : ∃ Q, bd.q = Q := ⟨_, rfl⟩
            rw [hQ] at p2 b4 b5
            clear ho hbm hbs' hgap hnext hlast hb30 hz
            go_wp2_with fail
            go_loopw [12] (fun vs wx => wx = wr ∧ ∃ s' : Nat, vs = .int .i64 (s' : Int) ∧ bd.q ≤ s' ∧ s' ≤ s) (fun vs _ => (intOf vs).toNat)
            case atStart => exact ⟨rfl, s, rfl, HBD.out.2.1, Nat.le_refl _⟩
            case round =>
              obtain ⟨rfl, s', rfl, h1, h2⟩ := hrel
              have z0 : wr.cell? ⟨MB, s', none⟩ = some (.bool (met s')) := by rw [HM.out.cell s', mtV_get met (by omega)]
              have c1 : (0 : Int) ≤ (s' : Int) := by omega
              have c2 : (s' : Int) < 31 := by omega
              have c3 : IntKind.i64.wrap ((s' : Int) - 1) = (s' : Int) - 1 := by rw [IntKind.wrap_i64]; omega
              cases hmt : met s' with
              | false =>
                have hne : s' ≠ bd.q := fun e => by have h3 := HBD.out.1; rw [← e, hmt] at h3; cases h3
                rw [hmt] at z0
                clear hmt
                go_wp2_with fail
                go_roundw
                case rel => exact ⟨(by first | trivial | rfl), s' - 1, by go_num, by omega, by omega⟩
                case measure => simp [intOf]; omega
              | true =>
                have heq : s' = bd.q := Nat.le_antisymm (Nat.le_of_not_lt fun h3 => HBD.out.2.2 s' hmt h3 h2) h1
                rw [hmt] at z0
                rw [hQ] at heq
                subst heq
                clear hmt h1
                have hs1 : 1 ≤ s' ∧ s' ≤ 30 := by have := HBQ.out; omega
                go_wp2_with fail
                go_roundw
                case rel => exact ⟨(by first | trivial | rfl), j', s' - 1, (j' : Int) - 1, (by first | rfl | rw [b3]), by go_num, rfl, by omega, by have := HBQ.out; omega, fun b2 hb2 => (by
                  rw [HBD2.out] at hb2
                  cases hb2
                  have := HBQ.out
                  omega), fun e => (by omega)⟩
                case measure => simp [intOf] <;> omega
end Go.Proofs.YtogkdekjcbljnaaDoor
