/- Two of the library's variables hold an error: from what a row lists to that; what stays. -/
import Derived.Test.YtekaiafhnnpkgaaGreatDoorBytes
import Derived.LaidSub
import Derived.MakeChecks
import Derived.Stop.LaidErr
namespace Go.Proofs.YtekaiafhnnpkgaaGreatDoor
open Go.RowKit
/-- a variable of the library holds an error -/
def Sen (w : World) (n : String) : Prop := ∃ tp p, w.var? Tryz.prog n = some #[.iface tp p]
theorem gES : Tryz.prog.globalNamed "strconv.ErrSyntax" = some 5 := by kernel_rfl
theorem gESType : (Tryz.prog.globals[5]?).map (·.type) = some 70 := by kernel_rfl
theorem gER : Tryz.prog.globalNamed "strconv.ErrRange" = some 6 := by kernel_rfl
theorem gERType : (Tryz.prog.globals[6]?).map (·.type) = some 70 := by kernel_rfl
theorem cellsES : Tryz.prog.cellsOf 138 = 1 := by kernel_rfl
theorem cellsStr : Tryz.prog.cellsOf 9 = 1 := by kernel_rfl
theorem starES : "*" ++ "errors.errorString" = "*errors.errorString" := by decide
theorem rowES (u : TypeId) (h : Tryz.prog.typeName? 3 u = some "*errors.errorString") : u = 136 :=
  typeName_ptr_named (nm := "errors.errorString") (by rw [starES]; kernel_rfl) (by kernel_rfl) (by decide) u (by rw [starES]; exact h)
/-- a text that a row lists, as an error -/
def senData (l : List UInt8) : DataW Unit := .iface "*errors.errorString" (.ptr (.agg [.lit (.string l)]))
theorem sen_of {W : World} {l : List (String × DataW Unit)} (h : laidMetH Tryz.prog l W)
    (hf : (l.filter (fun x => x.1 == "strconv.ErrSyntax"), l.filter (fun x => x.1 == "strconv.ErrRange")) =
      ([("strconv.ErrSyntax", senData [105, 110, 118, 97, 108, 105, 100, 32, 115, 121, 110, 116, 97, 120])], [("strconv.ErrRange", senData [118, 97, 108, 117, 101, 32, 111, 117, 116, 32, 111, 102, 32, 114, 97, 110, 103, 101])])) : Sen W "strconv.ErrSyntax" ∧ Sen W "strconv.ErrRange" := by
  obtain ⟨f2, f3⟩ := Prod.mk.inj hf
  have h2 := laidMetH.filter (fun x => x.1 == "strconv.ErrSyntax") h
  rw [f2, MakeChecks.laidMetH_plain _ _ _ (by rfl)] at h2
  have h3 := laidMetH.filter (fun x => x.1 == "strconv.ErrRange") h
  rw [f3, MakeChecks.laidMetH_plain _ _ _ (by rfl)] at h3
  unfold senData at h2 h3
  obtain ⟨a2, s2, v2, _, _, _⟩ := laid_sentinel h2 gES gESType Tryz.underlying70 rowES Tryz.underlying136 Tryz.underlying138 rfl rfl Tryz.underlying9 cellsES cellsStr
  obtain ⟨a3, s3, v3, _, _, _⟩ := laid_sentinel h3 gER gERType Tryz.underlying70 rowES Tryz.underlying136 Tryz.underlying138 rfl rfl Tryz.underlying9 cellsES cellsStr
  exact ⟨⟨_, _, v2⟩, ⟨_, _, v3⟩⟩
theorem var_keep {w w' : World} {n : String} {cs : Array Value} (h : w.var? Tryz.prog n = some cs) (hb : ∀ g, Tryz.prog.globalNamed n = some g → g < w.heap.size → w'.heap[g]? = w.heap[g]?) : w'.var? Tryz.prog n = some cs := by
  unfold World.var? at *
  cases hg : Tryz.prog.globalNamed n with
  | none => rw [hg] at h; cases h
  | some g =>
    rw [hg] at h
    simp only [Option.bind_some] at h ⊢
    have : g < w.heap.size := by
      rcases Nat.lt_or_ge g w.heap.size with h1 | h1
      · exact h1
      · rw [Array.getElem?_eq_none h1] at h; cases h
    rw [hb g hg this]; exact h
/-- an error's cell -/
theorem sen_cell {w : World} {n : String} {g : Nat} (hg : Tryz.prog.globalNamed n = some g) (h : Sen w n) : ∃ tp p, w.cell? ⟨g, 0, none⟩ = some (.iface tp p) := by
  obtain ⟨tp, p, h⟩ := h
  exact ⟨tp, p, by have h0 := World.var?_cell hg h 0; simpa using h0⟩
theorem Sen.below {B : Nat} {w w' : World} {n : String} (h : Sen w n) (hb : Below B w w') (hB : w.heap.size ≤ B) : Sen w' n := by
  obtain ⟨tp, p, h⟩ := h
  exact ⟨tp, p, var_keep h fun g _ hl => hb.block g (by omega)⟩
end Go.Proofs.YtekaiafhnnpkgaaGreatDoor
