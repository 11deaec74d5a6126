/- The library's tables of powers of ten and of blanks stand as they were laid. -/
import Derived.Test.YtjcllpfncohncaaDoorProg
import Derived.Test.YtjcllpfncohncaaDoorShelf
import Derived.Test.YtjcllpfncohncaaDoorText0
import Derived.WalkKit
import Derived.Lib.Hide
import Derived.LaidSub
import Derived.MakeChecks
import Derived.Lib.AppendIntMem
namespace Go.Proofs.YtjcllpfncohncaaDoor
open Go.RowKit
theorem tabIs_below {P : Program} {B : Nat} {w w' : World} {name : String} {k : IntKind} {zs : List Int} (h : Lib.TabIs P w name k zs) (hb : Below B w w') (hB : w.heap.size ≤ B) : Lib.TabIs P w' name k zs := by
  unfold Lib.TabIs World.var? at *
  cases hg : P.globalNamed name with
  | none => rw [hg] at h; cases h
  | some g =>
    rw [hg] at h
    simp only [Option.bind_some] at h ⊢
    have : g < w.heap.size := by
      rcases Nat.lt_or_ge g w.heap.size with h1 | h1
      · exact h1
      · rw [Array.getElem?_eq_none h1] at h; cases h
    rw [hb.block g (by omega)]; exact h
/-- both tables stand -/
def Tabs (w : World) : Prop := Lib.TabIs Tryd.prog w "internal/strconv.uint64pow10" .u64 Lib.pow10Tab ∧ Lib.TabIs Tryd.prog w "strings.asciiSpace" .u8 Lib.asciiSpaceTab
theorem Tabs.below {w w' : World} (h : Tabs w) (hb : Below w.heap.size w w') : Tabs w' :=
  ⟨tabIs_below h.1 hb (Nat.le_refl _), tabIs_below h.2 hb (Nat.le_refl _)⟩
theorem Tabs.drew {w : World} (h : Tabs w) : Tabs w.drew := h
theorem Tabs.alloc {w : World} (h : Tabs w) (o : Obj) : Tabs (w.alloc o) := h.below ((Below.refl _ _).alloc (Nat.le_refl _) _)
theorem itoa_any (n : Int) (w : World) (h0 : -9223372036854775808 ≤ n) (h1 : n ≤ 9223372036854775807) (ht : Tabs w) :
    Calls Tryd.prog 34 #[.int .i64 n] w fun e w' => e = .returned (.string (bs (Lib.itoa n))) ∧ Below w.heap.size w w' := by
  refine (Tryd.strconv_Itoa n h0 h1 w ht.1).mono ?_
  rintro e w' ⟨rfl, k, os, rfl⟩
  exact ⟨rfl, Lib.below_grow _ w (Nat.le_refl _) k os⟩
theorem itoa_small (n : Int) (w : World) (h0 : 0 ≤ n) (h1 : n < 100) :
    Calls Tryd.prog 34 #[.int .i64 n] w fun e w' => e = .returned (.string (bs (Lib.decDigits n.toNat))) ∧ w = w' := by
  obtain ⟨k, rfl⟩ : ∃ k : Nat, n = k := ⟨n.toNat, by omega⟩
  refine (Tryd.strconv_Itoa_small k (by omega) w).mono ?_
  rintro e w' ⟨rfl, rfl⟩
  exact ⟨rfl, rfl⟩
/-- a row of texts -/
def strs (ls : List (List UInt8)) : Array Value := (ls.map fun l => Value.string (bs l)).toArray
theorem fields_any (s : ByteArray) (ns : List (List UInt8)) (w : World) (hF : Lib.fields s.data.toList = ns) (hs : s.size < 4294967281) (ha : (s.data.toList.all fun b => decide (b.toNat < 128)) = true) (ht : Tabs w) :
    Calls Tryd.prog 32 #[.string s] w fun e w' => e = .returned (.slice (some ⟨w.heap.size, 0, none⟩) ns.length ns.length) ∧ w' = w.alloc (.cells (strs ns) 9) := by
  subst hF
  refine Tryd.strings_Fields s w hs ?_ ht.2
  intro j b hb
  exact of_decide_eq_true (List.all_eq_true.1 ha b (List.mem_of_getElem? hb))
theorem hasPrefix_any (s p : ByteArray) (w : World) :
    Calls Tryd.prog 54 #[.string s, .string p] w fun e w' => e = .returned (.bool (Lib.hasPrefix s.data.toList p.data.toList)) ∧ w = w' :=
  (Tryd.strings_HasPrefix s p w).mono fun _ _ h => ⟨h.1, h.2.symm⟩
theorem gTab : Tryd.prog.globalNamed "internal/strconv.uint64pow10" = some 2 := by kernel_rfl
theorem gTabType : (Tryd.prog.globals[2]?).map (·.type) = some 101 := by kernel_rfl
theorem cellsTab : Tryd.prog.cellsOf 101 = 20 := by kernel_rfl
theorem cellsU64 : Tryd.prog.cellsOf 31 = 1 := by kernel_rfl
theorem gSp : Tryd.prog.globalNamed "strings.asciiSpace" = some 0 := by kernel_rfl
theorem gSpType : (Tryd.prog.globals[0]?).map (·.type) = some 69 := by kernel_rfl
theorem cellsSp : Tryd.prog.cellsOf 69 = 256 := by kernel_rfl
theorem cellsU8 : Tryd.prog.cellsOf 5 = 1 := by kernel_rfl
theorem tabs_of {W : World} {l : List (String × DataW Unit)} (h : laidMetH Tryd.prog l W)
    (hf : (l.filter (fun x => x.1 == "internal/strconv.uint64pow10"), l.filter (fun x => x.1 == "strings.asciiSpace")) =
      ([("internal/strconv.uint64pow10", Lib.tabData .u64 Lib.pow10Tab)], [("strings.asciiSpace", Lib.tabData .u8 Lib.asciiSpaceTab)])) : Tabs W := by
  obtain ⟨f1, f2⟩ := Prod.mk.inj hf
  have h2 := laidMetH.filter (fun x => x.1 == "internal/strconv.uint64pow10") h
  rw [f1, MakeChecks.laidMetH_plain _ _ _ (by rfl)] at h2
  have h3 := laidMetH.filter (fun x => x.1 == "strings.asciiSpace") h
  rw [f2, MakeChecks.laidMetH_plain _ _ _ (by rfl)] at h3
  exact ⟨Lib.tabIs_of_head (rest := []) gTab gTabType Tryd.underlying101 Tryd.underlying31 cellsU64 cellsTab h2,
    Lib.tabIs_of_head (rest := []) gSp gSpType Tryd.underlying69 Tryd.underlying5 cellsU8 cellsSp h3⟩
end Go.Proofs.YtjcllpfncohncaaDoor
