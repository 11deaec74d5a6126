/- From what StoreApart's row lists to what its walk asks; fields whose bulk is small. -/
import Derived.Test.YtopgeclecpaecaaGreatDoorKqB
import Derived.Test.YtopgeclecpaecaaGreatDoorKKpV
import Derived.Test.YtopgeclecpaecaaGreatDoorRows
namespace Go.Proofs.YtopgeclecpaecaaGreatDoor
open Go.Joins Go.ChangeShapes Go.WideShapes Go.ChangeAt Go.RowKit Go.Deep
set_option maxRecDepth 100000
theorem bulkAllF_mem {H : Type} {x : DataW H} : ∀ {l : List (DataW H)}, x ∈ l → Rows.uptoBulk x ≤ Rows.uptoBulkAll l
  | [], h => by cases h
  | y :: r, h => by
    rw [Rows.uptoBulkAll]
    rcases List.mem_cons.1 h with rfl | h
    · omega
    · have := bulkAllF_mem h; omega
section
variable {H : Type} {enc : TypeId × Value → H} {W : World} {base : Nat} {v : Value} {d : DataW H} {ps : List MemPlace}
theorem fields_bulk {L : List Fld} {sp : List (DataW H)} {N : Nat} (h : Rows.uptoBulk (H := H) (.slice (L.map fdD) sp) ≤ N) : ∀ f ∈ L, f.1.length ≤ N ∧ f.2.length ≤ N := by
  intro f hf
  have hm : fdD f ∈ L.map (fdD (H := H)) := List.mem_map.2 ⟨_, hf, rfl⟩
  have h1 := bulkAllF_mem hm
  rw [Rows.uptoBulk] at h
  simp only [fdD, Rows.uptoBulk, Rows.uptoBulkAll] at h1
  omega
theorem open_argFb {N : Nat} (hv : Value.okWide Tryz.prog W .any base 24 v) (h : DataW.Trod enc Tryz.prog W 0 (fun _ => true) true 24 v d ps) (hb : Rows.uptoBulk d ≤ N) :
    ∃ L : List Fld, FL W v L ∧ (∀ f ∈ L, f.1.length ≤ N ∧ f.2.length ≤ N) ∧ L.length ≤ 9223372036854775807 := by
  obtain ⟨a0, len, cap, rfl⟩ := okWide_slice Tryz.underlying24 hv
  obtain ⟨fuel, hf⟩ := h
  obtain ⟨L, _, _, _, _, hfl, _, hl, hd⟩ := open_cellFd (y := (d, ps)) hf
  refine ⟨L, hfl, ?_, hl⟩
  rcases hd with rfl | ⟨sp, hd⟩
  · exact fun f hf => by cases hf
  · have hd' : d = .slice (L.map fdD) sp := hd
    rw [hd'] at hb
    exact fields_bulk hb
end
theorem storeApart_fr (v : Value) (L : List Ac) (key : ByteArray) (vr : Value) (req : List Fld) (w : World) (hv : AL w v L) (hL : ∀ j (hj : j < L.length), AcOk w L[j]) (hl : L.length ≤ 9223372036854775807) (hk : key.size ≤ maxLen) (hr : FL w vr req) (hrs : ∀ f ∈ req, f.1.length ≤ 1048576 ∧ f.2.length ≤ 1048576) (hrl : req.length ≤ 9223372036854775807) (hs : ∃ m : Int, w.cell? ⟨0, 0, none⟩ = some (.int .i64 m)) (ht : Tab w) :
    Calls Tryz.prog 5 #[v, .string key, vr] w fun e w' => e = .returned (.bool true) ∧ Below w.heap.size w w' := by
  have h := storeApart_law v L key.data.toList vr req w hv hL hl hr hrl (fun f hf => by have := hrs f hf; omega) (by have := hk; unfold maxLen at this; rw [Array.length_toList]; exact this) ⟨ht, hs⟩
  rw [bs_self] at h
  exact h
end Go.Proofs.YtopgeclecpaecaaGreatDoor
