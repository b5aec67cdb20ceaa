/- ResourceFields: the walk. -/
import Derived.Test.YtjolgalfjahceaaGreatDoorVrThingA
import Derived.Laws.StructEq
namespace Go.Proofs.YtjolgalfjahceaaGreatDoor
open Go.RowKit

theorem get_put_own {r : Vr} (hf : r.Fits) (hok : r.ok = true) : getV (⟨r.put.toArray⟩ : ByteArray).data.toList = some r := by
  have h := get_put (l := []) (more := []) hf hok Ps.nil (fun f hf => (List.not_mem_nil hf).elim)
  rw [List.append_nil] at h
  simpa using h
theorem put_inj {r r' : Vr} (hf : r.Fits) (hok : r.ok = true) (hf' : r'.Fits) (hok' : r'.ok = true) (h : r.put = r'.put) : r = r' := by
  have h1 := get_put_own hf hok
  rw [h, get_put_own hf' hok'] at h1
  exact (Option.some.inj h1).symm
theorem put_ne {r r' : Vr} {PA PB : ByteArray} (hf : r.Fits) (hok : r.ok = true) (hf' : r'.Fits) (hok' : r'.ok = true) (ha : (⟨r.put.toArray⟩ : ByteArray) = PA) (hb : (⟨r'.put.toArray⟩ : ByteArray) = PB) (hne : r ≠ r') : ¬ PA.toList = PB.toList := by
  intro h
  rw [ByteArray.toList_eq, ByteArray.toList_eq, ← ha, ← hb] at h
  exact hne (put_inj hf hok hf' hok' (by simpa using h))
theorem longer_ne (x : ByteArray) (c : UInt8) : ¬ x.toList = (x ++ (⟨#[c]⟩ : ByteArray)).toList := by
  intro h
  have := congrArg List.length h
  rw [ByteArray.toList_eq, ByteArray.toList_eq] at this
  have e : (x ++ (⟨#[c]⟩ : ByteArray)).data.toList.length = x.data.toList.length + 1 := by
    have := ByteArray.size_append (a := x) (b := ⟨#[c]⟩)
    exact this
  omega
theorem put_size {r : Vr} (hf : r.Fits) : r.put.length ≤ 2000 := by
  have h2 := textL_small 2 r.x
  have h5 := textL_small 5 r.s
  have h1 := numberL_small 1 r.t.toNat
  have h3 := numberL_small 3 r.q
  have h4 := numberL_small 4 1
  have hx := hf.x
  have hs := hf.s
  unfold Vr.put
  simp only [List.length_append]
  split <;> split <;> (try simp only [List.length_nil]) <;> omega

end Go.Proofs.YtjolgalfjahceaaGreatDoor
