/- Two of the library's variables hold an error: from what a row lists to that; what stays. -/
import Derived.Test.YtnpiaifkeddjeaaGreatDoorKBytes
import Derived.Test.YtnpiaifkeddjeaaGreatDoorKPlain
import Derived.Test.YtnpiaifkeddjeaaGreatDoorKPlainU
import Derived.LaidSub
import Derived.MakeChecks
import Derived.Stop.LaidErr
import Derived.Test.YtnpiaifkeddjeaaGreatDoorShelf
import Derived.Lib.AppendIntMem
import Derived.Lib.AtoiErrMem
import Derived.HandedShaped
namespace Go.Proofs.YtnpiaifkeddjeaaGreatDoor
open Go.RowKit
/-- a variable of the library holds an error -/
def Sen (w : World) (n : String) : Prop := ∃ tp p, w.var? Tryz.prog n = some #[.iface tp p]
theorem gES : Tryz.prog.globalNamed "strconv.ErrSyntax" = some 1 := by kernel_rfl
theorem gESType : (Tryz.prog.globals[1]?).map (·.type) = some 72 := by kernel_rfl
theorem gER : Tryz.prog.globalNamed "strconv.ErrRange" = some 2 := by kernel_rfl
theorem gERType : (Tryz.prog.globals[2]?).map (·.type) = some 72 := by kernel_rfl
theorem cellsES : Tryz.prog.cellsOf 142 = 1 := by kernel_rfl
theorem cellsStr : Tryz.prog.cellsOf 9 = 1 := by kernel_rfl
theorem starES : "*" ++ "errors.errorString" = "*errors.errorString" := by decide
theorem rowES (u : TypeId) (h : Tryz.prog.typeName? 3 u = some "*errors.errorString") : u = 140 :=
  typeName_ptr_named (nm := "errors.errorString") (by rw [starES]; kernel_rfl) (by kernel_rfl) (by decide) u (by rw [starES]; exact h)
/-- a text that a row lists, as an error -/
def senData (l : List UInt8) : DataW Unit := .iface "*errors.errorString" (.ptr (.agg [.lit (.string l)]))
theorem sen_of {W : World} {l : List (String × DataW Unit)} (h : laidMetH Tryz.prog l W)
    (hf : (l.filter (fun x => x.1 == "strconv.ErrSyntax"), l.filter (fun x => x.1 == "strconv.ErrRange")) =
      ([("strconv.ErrSyntax", senData [105, 110, 118, 97, 108, 105, 100, 32, 115, 121, 110, 116, 97, 120])], [("strconv.ErrRange", senData [118, 97, 108, 117, 101, 32, 111, 117, 116, 32, 111, 102, 32, 114, 97, 110, 103, 101])])) : Sen W "strconv.ErrSyntax" ∧ Sen W "strconv.ErrRange" := by
  obtain ⟨f2, f3⟩ := Prod.mk.inj hf
  have h2 := laidMetH.filter (fun x => x.1 == "strconv.ErrSyntax") h
  rw [f2, MakeChecks.laidMetH_plain _ _ _ (by rfl)] at h2
  have h3 := laidMetH.filter (fun x => x.1 == "strconv.ErrRange") h
  rw [f3, MakeChecks.laidMetH_plain _ _ _ (by rfl)] at h3
  unfold senData at h2 h3
  obtain ⟨a2, s2, v2, _, _, _⟩ := laid_sentinel h2 gES gESType Tryz.underlying72 rowES Tryz.underlying140 Tryz.underlying142 rfl rfl Tryz.underlying9 cellsES cellsStr
  obtain ⟨a3, s3, v3, _, _, _⟩ := laid_sentinel h3 gER gERType Tryz.underlying72 rowES Tryz.underlying140 Tryz.underlying142 rfl rfl Tryz.underlying9 cellsES cellsStr
  exact ⟨⟨_, _, v2⟩, ⟨_, _, v3⟩⟩
theorem var_keep {w w' : World} {n : String} {cs : Array Value} (h : w.var? Tryz.prog n = some cs) (hb : ∀ g, Tryz.prog.globalNamed n = some g → g < w.heap.size → w'.heap[g]? = w.heap[g]?) : w'.var? Tryz.prog n = some cs := by
  unfold World.var? at *
  cases hg : Tryz.prog.globalNamed n with
  | none => rw [hg] at h; cases h
  | some g =>
    rw [hg] at h
    simp only [Option.bind_some] at h ⊢
    have : g < w.heap.size := by
      rcases Nat.lt_or_ge g w.heap.size with h1 | h1
      · exact h1
      · rw [Array.getElem?_eq_none h1] at h; cases h
    rw [hb g hg this]; exact h
/-- an error's cell -/
theorem sen_cell {w : World} {n : String} {g : Nat} (hg : Tryz.prog.globalNamed n = some g) (h : Sen w n) : ∃ tp p, w.cell? ⟨g, 0, none⟩ = some (.iface tp p) := by
  obtain ⟨tp, p, h⟩ := h
  exact ⟨tp, p, by have h0 := World.var?_cell hg h 0; simpa using h0⟩
theorem Sen.below {B : Nat} {w w' : World} {n : String} (h : Sen w n) (hb : Below B w w') (hB : w.heap.size ≤ B) : Sen w' n := by
  obtain ⟨tp, p, h⟩ := h
  exact ⟨tp, p, var_keep h fun g _ hl => hb.block g (by omega)⟩
end Go.Proofs.YtnpiaifkeddjeaaGreatDoor

/- What the walks ask of Go's library: its table of powers of ten stands as it was laid, two of its errors hold something; from what a row lists to that; numbers as texts and back. -/
namespace Go.Proofs.YtnpiaifkeddjeaaGreatDoor
open Go.RowKit
def Env (w : World) : Prop := Lib.TabIs Tryz.prog w "internal/strconv.uint64pow10" .u64 Lib.pow10Tab ∧ Sen w "strconv.ErrSyntax" ∧ Sen w "strconv.ErrRange"
theorem gTab : Tryz.prog.globalNamed "internal/strconv.uint64pow10" = some 3 := by kernel_rfl
theorem gTabType : (Tryz.prog.globals[3]?).map (·.type) = some 136 := by kernel_rfl
theorem cellsTab : Tryz.prog.cellsOf 136 = 20 := by kernel_rfl
theorem cellsU64 : Tryz.prog.cellsOf 114 = 1 := by kernel_rfl
theorem env_of {W : World} {l : List (String × DataW Unit)} (h : laidMetH Tryz.prog l W)
    (hf : (l.filter (fun x => x.1 == "internal/strconv.uint64pow10"), l.filter (fun x => x.1 == "strconv.ErrSyntax"), l.filter (fun x => x.1 == "strconv.ErrRange")) =
      ([("internal/strconv.uint64pow10", Lib.tabData .u64 Lib.pow10Tab)], [("strconv.ErrSyntax", senData [105, 110, 118, 97, 108, 105, 100, 32, 115, 121, 110, 116, 97, 120])], [("strconv.ErrRange", senData [118, 97, 108, 117, 101, 32, 111, 117, 116, 32, 111, 102, 32, 114, 97, 110, 103, 101])])) : Env W := by
  obtain ⟨f1, f23⟩ := Prod.mk.inj hf
  obtain ⟨f2, f3⟩ := Prod.mk.inj f23
  have h1 := laidMetH.filter (fun x => x.1 == "internal/strconv.uint64pow10") h
  rw [f1, MakeChecks.laidMetH_plain _ _ _ (by rfl)] at h1
  have h2 := laidMetH.filter (fun x => x.1 == "strconv.ErrSyntax") h
  rw [f2, MakeChecks.laidMetH_plain _ _ _ (by rfl)] at h2
  have h3 := laidMetH.filter (fun x => x.1 == "strconv.ErrRange") h
  rw [f3, MakeChecks.laidMetH_plain _ _ _ (by rfl)] at h3
  unfold senData at h2 h3
  obtain ⟨a2, s2, v2, _, _, _⟩ := laid_sentinel h2 gES gESType Tryz.underlying72 rowES Tryz.underlying140 Tryz.underlying142 rfl rfl Tryz.underlying9 cellsES cellsStr
  obtain ⟨a3, s3, v3, _, _, _⟩ := laid_sentinel h3 gER gERType Tryz.underlying72 rowES Tryz.underlying140 Tryz.underlying142 rfl rfl Tryz.underlying9 cellsES cellsStr
  exact ⟨Lib.tabIs_of_head (rest := []) gTab gTabType Tryz.underlying136 Tryz.underlying114 cellsU64 cellsTab h1, ⟨_, _, v2⟩, ⟨_, _, v3⟩⟩

theorem Env.keep {w w' : World} (h : Env w) (hb : ∀ g, g < w.heap.size → g ≤ 64 → w'.heap[g]? = w.heap[g]?) : Env w' := by
  obtain ⟨h1, ⟨t2, p2, h2⟩, ⟨t3, p3, h3⟩⟩ := h
  refine ⟨?_, ⟨t2, p2, var_keep h2 fun g hg hl => hb g hl ?_⟩, ⟨t3, p3, var_keep h3 fun g hg hl => hb g hl ?_⟩⟩
  · unfold Lib.TabIs at *
    exact var_keep h1 fun g hg hl => hb g hl (by rw [gTab] at hg; cases hg; decide)
  · rw [gES] at hg; cases hg; decide
  · rw [gER] at hg; cases hg; decide
theorem Env.below {B : Nat} {w w' : World} (h : Env w) (hb : Below B w w') (hB : w.heap.size ≤ B) : Env w' := h.keep fun g hg _ => hb.block g (by omega)
theorem Env.alloc {w : World} (h : Env w) (o : Obj) : Env (w.alloc o) := h.below ((Below.refl w.heap.size _).alloc (Nat.le_refl _) _) (Nat.le_refl _)

/-- 'strconv.Atoi': the number, and some error or none. -/
theorem atoi_any (s : ByteArray) (w : World) (hlim : s.size ≤ 281474976710656) (ht : Env w) :
    Calls Tryz.prog 65 #[.string s] w fun e w' => ∃ v, e = .returned (.tuple #[.int .i64 (atoiV s.data.toList), v]) ∧ Below w.heap.size w w' := by
  obtain ⟨-, ⟨t2, p2, h2⟩, ⟨t3, p3, h3⟩⟩ := ht
  by_cases hr : Lib.atoiAll s.data.toList = .range
  · refine (Tryz.strconv_Atoi_range_var s hlim hr t3 p3 w h3).mono ?_
    rintro e w' ⟨N, rfl, -, -, hb⟩
    exact ⟨_, by unfold atoiV; rw [hr], hb⟩
  · by_cases hk : ∃ v, Lib.atoiAll s.data.toList = .ok v
    · obtain ⟨v, hv⟩ := hk
      refine (Tryz.strconv_Atoi_ok s (by omega) v hv w).mono ?_
      rintro e w' ⟨rfl, hw⟩
      refine ⟨_, by unfold atoiV; rw [hv], ?_⟩
      rcases hw with rfl | ⟨t, rfl⟩
      · exact Below.refl _ _
      · exact Lib.bytesWorld_below _ _ _
    · refine (Tryz.strconv_Atoi_bad_var s hlim (fun v hv => hk ⟨v, hv⟩) hr t2 p2 w h2).mono ?_
      rintro e w' ⟨N, rfl, -, -, hb⟩
      have hz : atoiV s.data.toList = 0 := by
        unfold atoiV
        split
        · rename_i v hv; exact absurd ⟨v, hv⟩ hk
        · rename_i hv; exact absurd hv hr
        · rfl
      exact ⟨_, by rw [hz], hb⟩
end Go.Proofs.YtnpiaifkeddjeaaGreatDoor

/- What the walks of URIs ask of Go's library; the library's functions on texts of bytes. -/
namespace Go.Proofs.YtnpiaifkeddjeaaGreatDoor
open Go.RowKit

/-- the library's variable that strings.Index looks at holds a number -/
def MaxU (w : World) : Prop := ∃ m : Int, w.cell? ⟨0, 0, none⟩ = some (.int .i64 m)
def EnvU (w : World) : Prop := MaxU w ∧ Env w
theorem MaxU.below {w w' : World} {B : Nat} (h : MaxU w) (hb : Below B w w') (hB : w.heap.size ≤ B) : MaxU w' := by
  obtain ⟨m, h⟩ := h
  have hlt : 0 < w.heap.size := block_lt_of_cell h
  exact ⟨m, (hb.cell (p := ⟨0, 0, none⟩) (by show 0 < B; omega)).trans h⟩
theorem EnvU.below {B : Nat} {w w' : World} (h : EnvU w) (hb : Below B w w') (hB : w.heap.size ≤ B) : EnvU w' := ⟨h.1.below hb hB, h.2.below hb hB⟩
theorem EnvU.bel {w w' : World} (h : EnvU w) (hb : Below w.heap.size w w') : EnvU w' := h.below hb (Nat.le_refl _)
theorem EnvU.alloc {w : World} (h : EnvU w) (o : Obj) : EnvU (w.alloc o) := h.bel ((Below.refl w.heap.size _).alloc (Nat.le_refl _) _)
theorem maxU_of (W : World) (h : W.ShapedOpen Tryz.prog) : MaxU W :=
  Go.Proofs.cell_of_shapedOpen_int (zero := #[.int .i64 0]) (t := 3) h (of_decide_eq_true (by kernel_rfl)) (by kernel_rfl) rfl (by kernel_rfl) (by kernel_rfl) Tryz.underlying3

theorem cutU_any (s sep : List UInt8) (w : World) (hm : EnvU w) (hs : s.length < 4294967281) :
    Calls Tryz.prog 64 #[.string (bs s), .string (bs sep)] w fun e w' => e = .returned (.tuple #[.string (bs (Lib.cut s sep).1), .string (bs (Lib.cut s sep).2.1), .bool (Lib.cut s sep).2.2]) ∧ Below w.heap.size w w' := by
  obtain ⟨⟨m, hm⟩, -⟩ := hm
  refine (Tryz.strings_Cut (bs s) (bs sep) m w (by rw [bs_size]; exact hs) hm).mono ?_
  rw [bs_data, bs_data]
  rintro e w' ⟨he, n, rfl⟩
  have h := Below.refl w.heap.size w
  exact ⟨he, h.os, h.tape, h.output, h.size, h.block⟩
theorem prefixU_any (s p : List UInt8) (w : World) :
    Calls Tryz.prog 61 #[.string (bs s), .string (bs p)] w fun e w' => e = .returned (.bool (Lib.hasPrefix s p)) ∧ w = w' := by
  refine (Tryz.strings_HasPrefix (bs s) (bs p) w).mono ?_
  rw [bs_data, bs_data]
  rintro e w' ⟨he, hw⟩
  exact ⟨he, hw.symm⟩
theorem suffixU_any (s p : List UInt8) (w : World) (hs : s.length ≤ 9223372036854775807) :
    Calls Tryz.prog 69 #[.string (bs s), .string (bs p)] w fun e w' => e = .returned (.bool (Lib.hasSuffix s p)) ∧ w = w' := by
  refine (Tryz.strings_HasSuffix (bs s) (bs p) w (by rw [bs_size]; exact hs)).mono ?_
  rw [bs_data, bs_data]
  rintro e w' ⟨he, hw⟩
  exact ⟨he, hw.symm⟩
theorem cutPrefixU_any (s p : List UInt8) (w : World) :
    Calls Tryz.prog 67 #[.string (bs s), .string (bs p)] w fun e w' => e = .returned (.tuple #[.string (bs (Lib.trimPrefix s p)), .bool (Lib.hasPrefix s p)]) ∧ w = w' := by
  refine (Tryz.strings_CutPrefix (bs s) (bs p) w).mono ?_
  rw [bs_data, bs_data]
  rintro e w' ⟨he, hw⟩
  exact ⟨he, hw.symm⟩
theorem index_in (m : List UInt8) (c : UInt8) : decide ((0 : Int) ≤ Lib.indexByte m c) = inI (c.toNat : Int) m := by
  have key : ∀ m : List UInt8, (Lib.indexByte m c = -1 ∧ inI (c.toNat : Int) m = false) ∨ (0 ≤ Lib.indexByte m c ∧ inI (c.toNat : Int) m = true) := by
    intro m
    induction m with
    | nil => exact .inl ⟨rfl, rfl⟩
    | cons b l ih =>
      have h2 : inI (c.toNat : Int) (b :: l) = (((b.toNat : Int) == (c.toNat : Int)) || inI (c.toNat : Int) l) := rfl
      have h3 : ((b.toNat : Int) == (c.toNat : Int)) = (b == c) := by
        rw [Bool.eq_iff_iff, beq_iff_eq, beq_iff_eq]
        exact ⟨fun h => UInt8.toNat_inj.1 (by omega), fun h => by rw [h]⟩
      rw [h2, h3]
      unfold Lib.indexByte
      cases hb : b == c
      · rcases ih with ⟨h4, h5⟩ | ⟨h4, h5⟩
        · exact .inl ⟨by simp [h4], by simp [h5]⟩
        · have h6 : (Lib.indexByte l c == -1) = false := by rw [beq_eq_false_iff_ne]; omega
          exact .inr ⟨by simp [h6]; omega, by simp [h5]⟩
      · exact .inr ⟨by simp, by simp⟩
  rcases key m with ⟨h1, h2⟩ | ⟨h1, h2⟩
  · rw [h2, h1]; rfl
  · rw [h2]; exact decide_eq_true h1
theorem indexU_any (m : List UInt8) (c : UInt8) (w : World) :
    Calls Tryz.prog 89 #[.string (bs m), .int .u8 (c.toNat : Int)] w fun e w' => e = .returned (.int .i64 (Lib.indexByte m c)) ∧ w = w' := by
  refine (Tryz.strings_IndexByte (bs m) (c.toNat : Int) w).mono ?_
  rw [bs_data]
  rintro e w' ⟨he, hw⟩
  refine ⟨?_, hw.symm⟩
  rw [he, Int.toNat_natCast]
  simp
theorem cloneU_any (s : List UInt8) (w : World) (hlim : s.length ≤ 281474976710656) :
    Calls Tryz.prog 37 #[.string (bs s)] w fun e w' => e = .returned (.string (bs s)) ∧ Below w.heap.size w w' := clone_any (bs s) w (by rw [bs_size]; exact hlim)
theorem itoaU_any (n : Int) (w : World) (h0 : -9223372036854775808 ≤ n) (h1 : n ≤ 9223372036854775807) (ht : EnvU w) :
    Calls Tryz.prog 63 #[.int .i64 n] w fun e w' => e = .returned (.string (bs (Lib.itoa n))) ∧ Below w.heap.size w w' := by
  refine (Tryz.strconv_Itoa n h0 h1 w ht.2.1).mono ?_
  rintro e w' ⟨rfl, k, os, rfl⟩
  exact ⟨rfl, Lib.below_grow _ w (Nat.le_refl _) k os⟩
theorem atoiU_any (s : List UInt8) (w : World) (hlim : s.length ≤ 281474976710656) (ht : EnvU w) :
    Calls Tryz.prog 65 #[.string (bs s)] w fun e w' => ∃ v, e = .returned (.tuple #[.int .i64 (atoiV s), v]) ∧ Below w.heap.size w w' := by
  have h := atoi_any (bs s) w (by rw [bs_size]; exact hlim) ht.2
  rwa [bs_data] at h
theorem lowerU_any (s : List UInt8) (w : World) (hs : s.length ≤ maxLen) :
    Calls Tryz.prog 39 #[.string (bs s)] w fun e w' => e = .returned (.string (bs (lower s))) ∧ Below w.heap.size w w' := by
  have h := lower_any (bs s) w (by rw [bs_size]; exact hs)
  rwa [bs_data] at h
end Go.Proofs.YtnpiaifkeddjeaaGreatDoor
