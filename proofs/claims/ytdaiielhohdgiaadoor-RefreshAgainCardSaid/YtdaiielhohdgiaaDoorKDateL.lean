/- The library's tables of powers of ten and of blanks stand as they were laid. -/
import Derived.Test.YtdaiielhohdgiaaDoorKDateA
import Derived.Test.YtdaiielhohdgiaaDoorKPlain
import Derived.Test.YtdaiielhohdgiaaDoorProg
import Derived.Test.YtdaiielhohdgiaaDoorShelf
import Derived.WalkKit
import Derived.Lib.Hide
import Derived.LaidSub
import Derived.MakeChecks
import Derived.Lib.AppendIntMem
namespace Go.Proofs.YtdaiielhohdgiaaDoor
open Go.RowKit
theorem tabIs_below {P : Program} {B : Nat} {w w' : World} {name : String} {k : IntKind} {zs : List Int} (h : Lib.TabIs P w name k zs) (hb : Below B w w') (hB : w.heap.size ≤ B) : Lib.TabIs P w' name k zs := by
  unfold Lib.TabIs World.var? at *
  cases hg : P.globalNamed name with
  | none => rw [hg] at h; cases h
  | some g =>
    rw [hg] at h
    simp only [Option.bind_some] at h ⊢
    have : g < w.heap.size := by
      rcases Nat.lt_or_ge g w.heap.size with h1 | h1
      · exact h1
      · rw [Array.getElem?_eq_none h1] at h; cases h
    rw [hb.block g (by omega)]; exact h
/-- the table of blanks stands -/
def Tabs (w : World) : Prop := Lib.TabIs Tryd.prog w "strings.asciiSpace" .u8 Lib.asciiSpaceTab
theorem Tabs.below {w w' : World} (h : Tabs w) (hb : Below w.heap.size w w') : Tabs w' := tabIs_below h hb (Nat.le_refl _)
theorem Tabs.sp {w : World} (h : Tabs w) : Lib.TabIs Tryd.prog w "strings.asciiSpace" .u8 Lib.asciiSpaceTab := h
/-- both tables stand: what date.Put asks -/
def TabsP (w : World) : Prop := Lib.TabIs Tryd.prog w "internal/strconv.uint64pow10" .u64 Lib.pow10Tab ∧ Tabs w
theorem TabsP.below {w w' : World} (h : TabsP w) (hb : Below w.heap.size w w') : TabsP w' :=
  ⟨tabIs_below h.1 hb (Nat.le_refl _), tabIs_below h.2 hb (Nat.le_refl _)⟩
theorem TabsP.drew {w : World} (h : TabsP w) : TabsP w.drew := h
theorem TabsP.alloc {w : World} (h : TabsP w) (o : Obj) : TabsP (w.alloc o) := h.below ((Below.refl _ _).alloc (Nat.le_refl _) _)
theorem Tabs.drew {w : World} (h : Tabs w) : Tabs w.drew := h
theorem Tabs.alloc {w : World} (h : Tabs w) (o : Obj) : Tabs (w.alloc o) := h.below ((Below.refl _ _).alloc (Nat.le_refl _) _)
theorem itoaT_any (n : Int) (w : World) (h0 : -9223372036854775808 ≤ n) (h1 : n ≤ 9223372036854775807) (ht : TabsP w) :
    Calls Tryd.prog 34 #[.int .i64 n] w fun e w' => e = .returned (.string (bs (Lib.itoa n))) ∧ Below w.heap.size w w' := by
  refine (Tryd.strconv_Itoa n h0 h1 w ht.1).mono ?_
  rintro e w' ⟨rfl, k, os, rfl⟩
  exact ⟨rfl, Lib.below_grow _ w (Nat.le_refl _) k os⟩
theorem itoa_small (n : Int) (w : World) (h0 : 0 ≤ n) (h1 : n < 100) :
    Calls Tryd.prog 34 #[.int .i64 n] w fun e w' => e = .returned (.string (bs (Lib.decDigits n.toNat))) ∧ w = w' := by
  obtain ⟨k, rfl⟩ : ∃ k : Nat, n = k := ⟨n.toNat, by omega⟩
  refine (Tryd.strconv_Itoa_small k (by omega) w).mono ?_
  rintro e w' ⟨rfl, rfl⟩
  exact ⟨rfl, rfl⟩
/-- a row of texts -/
def strs (ls : List (List UInt8)) : Array Value := (ls.map fun l => Value.string (bs l)).toArray
theorem fields_any (s : ByteArray) (ns : List (List UInt8)) (w : World) (hF : Lib.fields s.data.toList = ns) (hs : s.size < 4294967281) (ha : (s.data.toList.all fun b => decide (b.toNat < 128)) = true) (ht : Tabs w) :
    Calls Tryd.prog 32 #[.string s] w fun e w' => e = .returned (.slice (some ⟨w.heap.size, 0, none⟩) ns.length ns.length) ∧ w' = w.alloc (.cells (strs ns) 9) := by
  subst hF
  refine Tryd.strings_Fields s w hs ?_ ht.sp
  intro j b hb
  exact of_decide_eq_true (List.all_eq_true.1 ha b (List.mem_of_getElem? hb))
theorem hasPrefix_any (s p : ByteArray) (w : World) :
    Calls Tryd.prog 76 #[.string s, .string p] w fun e w' => e = .returned (.bool (Lib.hasPrefix s.data.toList p.data.toList)) ∧ w = w' :=
  (Tryd.strings_HasPrefix s p w).mono fun _ _ h => ⟨h.1, h.2.symm⟩
theorem gTabT : Tryd.prog.globalNamed "internal/strconv.uint64pow10" = some 2 := by kernel_rfl
theorem gTabTypeT : (Tryd.prog.globals[2]?).map (·.type) = some 138 := by kernel_rfl
theorem cellsTabT : Tryd.prog.cellsOf 138 = 20 := by kernel_rfl
theorem cellsU64T : Tryd.prog.cellsOf 125 = 1 := by kernel_rfl
theorem gSp : Tryd.prog.globalNamed "strings.asciiSpace" = some 0 := by kernel_rfl
theorem gSpType : (Tryd.prog.globals[0]?).map (·.type) = some 88 := by kernel_rfl
theorem cellsSp : Tryd.prog.cellsOf 88 = 256 := by kernel_rfl
theorem cellsU8 : Tryd.prog.cellsOf 5 = 1 := by kernel_rfl
theorem tabsP_of {W : World} {l : List (String × DataW Unit)} (h : laidMetH Tryd.prog l W)
    (hf : (l.filter (fun x => x.1 == "internal/strconv.uint64pow10"), l.filter (fun x => x.1 == "strings.asciiSpace")) =
      ([("internal/strconv.uint64pow10", Lib.tabData .u64 Lib.pow10Tab)], [("strings.asciiSpace", Lib.tabData .u8 Lib.asciiSpaceTab)])) : TabsP W := by
  obtain ⟨f1, f2⟩ := Prod.mk.inj hf
  have h2 := laidMetH.filter (fun x => x.1 == "internal/strconv.uint64pow10") h
  rw [f1, MakeChecks.laidMetH_plain _ _ _ (by rfl)] at h2
  have h3 := laidMetH.filter (fun x => x.1 == "strings.asciiSpace") h
  rw [f2, MakeChecks.laidMetH_plain _ _ _ (by rfl)] at h3
  exact ⟨Lib.tabIs_of_head (rest := []) gTabT gTabTypeT Tryd.underlying138 Tryd.underlying125 cellsU64T cellsTabT h2,
    Lib.tabIs_of_head (rest := []) gSp gSpType Tryd.underlying88 Tryd.underlying5 cellsU8 cellsSp h3⟩
theorem tabs_of {W : World} {l : List (String × DataW Unit)} (h : laidMetH Tryd.prog l W)
    (hf : l.filter (fun x => x.1 == "strings.asciiSpace") = [("strings.asciiSpace", Lib.tabData .u8 Lib.asciiSpaceTab)]) : Tabs W := by
  have h3 := laidMetH.filter (fun x => x.1 == "strings.asciiSpace") h
  rw [hf, MakeChecks.laidMetH_plain _ _ _ (by rfl)] at h3
  exact Lib.tabIs_of_head (rest := []) gSp gSpType Tryd.underlying88 Tryd.underlying5 cellsU8 cellsSp h3
end Go.Proofs.YtdaiielhohdgiaaDoor

/- The date layer's readers: leading, number, spacedDay; padded. -/
namespace Go.Proofs.YtdaiielhohdgiaaDoor
open Go.RowKit

theorem ret_twoD {a b c d : Int} (h : a = c) (k : b = d) : Ending.returned (.tuple #[.int .i64 a, .int .i64 b]) = .returned (.tuple #[.int .i64 c, .int .i64 d]) := by rw [h, k]
theorem strs_cell (w : World) (ns : List (List UInt8)) (k : Nat) (h : k < ns.length) : (w.alloc (.cells (strs ns) 9)).cell? ⟨w.heap.size, k, none⟩ = some (.string (bs ns[k])) := by
  unfold World.cell? World.alloc
  simp [strs, h]

set_option maxHeartbeats 1000000 in
theorem leading_any (s nb : ByteArray) (ns : List (List UInt8)) (w : World) (hF : Lib.fields nb.data.toList = ns) (hs : nb.size < 4294967281) (ha : (nb.data.toList.all fun b => decide (b.toNat < 128)) = true) (hn : 0 < ns.length ∧ ns.length ≤ 12) (hl : ∀ n ∈ ns, n.length ≤ 100) (ht : Tabs w) :
    Calls Tryd.prog 61 #[.string s, .string nb] w fun e w' => e = .returned (.tuple #[.int .i64 (leadL ns s.data.toList).1, .int .i64 (leadL ns s.data.toList).2]) ∧ Below w.heap.size w w' := by
  obtain ⟨hn0, hn1⟩ := hn
  have HF := Lib.hid hF
  have HA := Lib.hid ha
  have HT := Lib.hid ht
  have HL := Lib.hid hl
  clear hF ha ht hl
  go_enter Tryd.func61, Tryd.ntmps61
  go_wp2_with (go_at_call 32; refine (fields_any _ ns _ HF.out hs HA.out HT.out).mono ?_; rintro e w' ⟨rfl, rfl⟩)
  go_loop [11] (fun i => ∃ k : Nat, k ≤ ns.length ∧ i = .int .i64 k ∧ Hid (leadGo k (ns.drop k) s.data.toList = leadL ns s.data.toList)) (fun i => ns.length - (intOf i).toNat)
  case atStart => exact ⟨0, Nat.zero_le _, rfl, rfl⟩
  case round =>
    obtain ⟨k, hk, rfl, HG⟩ := hrel
    by_cases hlt : k < ns.length
    · have hcell := strs_cell w ns k hlt
      have hlen : ns[k].length ≤ 100 := HL.out _ (List.getElem_mem hlt)
      cases hb : Lib.hasPrefix s.data.toList ns[k]
      · have hb2 : Lib.hasPrefix s.data.toList (bs ns[k]).data.toList = false := by rw [bs_data]; exact hb
        have HS := Lib.hid (lead_step hlt hb)
        go_wp2_with (go_at_call 76; refine (hasPrefix_any _ _ _).mono ?_; rintro e w' ⟨rfl, rfl⟩)
        go_round
        case rel => exact ⟨k + 1, by omega, by go_num, by show _ = _; rw [← HS.out]; exact HG⟩
        case measure => simp [intOf]; omega
      · have hb2 : Lib.hasPrefix s.data.toList (bs ns[k]).data.toList = true := by rw [bs_data]; exact hb
        have HS := Lib.hid (lead_hit hlt hb)
        go_wp2_with (go_at_call 76; refine (hasPrefix_any _ _ _).mono ?_; rintro e w' ⟨rfl, rfl⟩)
        go_ret2
        exact ⟨ret_twoD (by rw [← HG.out, HS.out]) (by rw [← HG.out, HS.out]), (Below.refl _ _).alloc (Nat.le_refl _) _⟩
    · have HS := Lib.hid (lead_end (l := s.data.toList) hlt)
      go_wp2_with fail
      go_ret2
      exact ⟨ret_twoD (by rw [← HG.out, HS.out]; rfl) (by rw [← HG.out, HS.out]; rfl), (Below.refl _ _).alloc (Nat.le_refl _) _⟩

set_option maxHeartbeats 1000000 in
theorem number_any (s : ByteArray) (k : Nat) (w : World) (hs : s.size ≤ maxLen) (hk : k ≤ 4) :
    Calls Tryd.prog 62 #[.string s, .int .i64 k] w fun e w' => e = .returned (.tuple #[.int .i64 (numV s.data.toList k).1, .int .i64 (numV s.data.toList k).2]) ∧ w = w' := by
  unfold maxLen at hs
  by_cases hlen : s.size < k
  · have HV := Lib.hid (numV_short (l := s.data.toList) (k := k) (by rw [← size_len]; exact hlen))
    go_enter Tryd.func62, Tryd.ntmps62
    go_wp2_with fail
    go_ret2
    exact ⟨ret_twoD (by rw [HV.out]; rfl) (by rw [HV.out]; rfl), rfl⟩
  · have hlen2 : k ≤ s.size := by omega
    go_enter Tryd.func62, Tryd.ntmps62
    go_wp2_with fail
    go_loop [4, 12] (fun n i => ∃ j : Nat, j ≤ k ∧ i = .int .i64 j ∧ n = .int .i64 (num (s.data.toList.take j)) ∧ Hid ((s.data.toList.take j).all digC = true)) (fun _ i => k - (intOf i).toNat)
    case atStart => exact ⟨0, Nat.zero_le _, rfl, rfl, rfl⟩
    case round =>
      obtain ⟨j, hj, rfl, rfl, HT⟩ := hrel
      have hbd := num_lt10 HT.out (List.length_take_le j _) (by omega)
      by_cases hlt : j < k
      · have hlt2 : j < s.size := by omega
        cases hb : digC s[j]
        · have HV : Hid (numV s.data.toList k = (0, 0)) := by
            refine numV_no ?_
            rw [← Bool.not_eq_true, List.all_eq_true]
            intro h
            have h1 := h s[j] (by
              rw [List.mem_iff_getElem]
              exact ⟨j, by rw [List.length_take, ← size_len]; omega, by rw [List.getElem_take]; rfl⟩)
            rw [hb] at h1; cases h1
          have hc : (s[j].toNat : Int) < 48 ∨ 48 ≤ (s[j].toNat : Int) ∧ 57 < (s[j].toNat : Int) := by
            unfold digC at hb; have := of_decide_eq_false hb; omega
          clear hb
          rcases hc with hc | ⟨hc0, hc⟩
          · go_wp2_with fail
            go_ret2
            exact ⟨ret_twoD (by rw [HV.out]; rfl) (by rw [HV.out]; rfl), rfl⟩
          · go_wp2_with fail
            go_ret2
            exact ⟨ret_twoD (by rw [HV.out]; rfl) (by rw [HV.out]; rfl), rfl⟩
        · have HA := Lib.hid (all_snoc s digC j hlt2 HT.out hb)
          have hd := dig_bd hb
          have hc0 : 48 ≤ (s[j].toNat : Int) := by omega
          have hc1 : (s[j].toNat : Int) ≤ 57 := by omega
          have HN : Hid ((num (s.data.toList.take (j + 1)) : Int) = 10 * (num (s.data.toList.take j) : Int) + ((s[j].toNat : Int) - 48)) := by
            show _ = _
            rw [take_snoc s j hlt2, num_snoc]; omega
          clear hb hd
          go_wp2_with fail
          go_round
          case rel => exact ⟨j + 1, by omega, by go_num, by rw [HN.out], HA⟩
          case measure => simp [intOf]; omega
      · obtain rfl : j = k := by omega
        have HV := Lib.hid (numV_yes (l := s.data.toList) (k := j) (by rw [← size_len]; exact hlen2) HT.out)
        go_wp2_with fail
        go_ret2
        exact ⟨ret_twoD (by rw [HV.out]) (by rw [HV.out]), rfl⟩

theorem spaced_any (s : ByteArray) (w : World) (hs : s.size ≤ maxLen) :
    Calls Tryd.prog 63 #[.string s] w fun e w' => e = .returned (.tuple #[.int .i64 (spdV s.data.toList).1, .int .i64 (spdV s.data.toList).2]) ∧ w = w' := by
  have hs2 := hs
  unfold maxLen at hs2
  cases hb : Lib.hasPrefix s.data.toList [32]
  · have HV : Hid (spdV s.data.toList = numV s.data.toList 2) := by show _ = _; unfold spdV; rw [hb]; rfl
    go_enter Tryd.func63, Tryd.ntmps63
    go_wp2_with fail
    refine (hasPrefix_any _ _ _).mono ?_
    rintro e w' ⟨rfl, rfl⟩
    go_wp2_with fail
    refine (number_any s 2 _ hs (by omega)).mono ?_
    rintro e w' ⟨rfl, rfl⟩
    go_wp2_with fail
    go_ret2
    exact ⟨ret_twoD (by rw [HV.out]) (by rw [HV.out]), rfl⟩
  · have hpos : 1 ≤ s.size := by
      obtain ⟨r, hr⟩ := prefix_one hb
      rw [size_len, hr]; simp
    have hsz : (s.extract 1 s.size).size ≤ maxLen := by unfold maxLen; simp; omega
    have HB := Lib.hid hb
    cases hB : numB (s.data.toList.drop 1) 1
    · have HV : Hid (spdV s.data.toList = (0, 0)) := by show _ = _; unfold spdV; rw [hb, if_pos rfl, hB]; rfl
      have HN : Hid (numV (s.data.toList.drop 1) 1 = (0, 0)) := by show _ = _; unfold numV; rw [hB]; rfl
      clear hB
      go_enter Tryd.func63, Tryd.ntmps63
      go_wp2_with fail
      refine (hasPrefix_any _ _ _).mono ?_
      rintro e w' ⟨rfl, rfl⟩
      go_wp2_with fail
      refine (number_any _ 1 _ hsz (by omega)).mono ?_
      rw [Lib.extract_to_end, HN.out]
      rintro e w' ⟨rfl, rfl⟩
      go_wp2_with fail
      go_ret2
      exact ⟨ret_twoD (by rw [HV.out]; rfl) (by rw [HV.out]; rfl), rfl⟩
    · have HV : Hid (spdV s.data.toList = (num ((s.data.toList.drop 1).take 1), 2)) := by show _ = _; unfold spdV; rw [hb, if_pos rfl, hB]; rfl
      have HN : Hid (numV (s.data.toList.drop 1) 1 = (num ((s.data.toList.drop 1).take 1), 1)) := by show _ = _; unfold numV; rw [hB]; rfl
      clear hB
      go_enter Tryd.func63, Tryd.ntmps63
      go_wp2_with fail
      refine (hasPrefix_any _ _ _).mono ?_
      rintro e w' ⟨rfl, rfl⟩
      go_wp2_with fail
      refine (number_any _ 1 _ hsz (by omega)).mono ?_
      rw [Lib.extract_to_end, HN.out]
      rintro e w' ⟨rfl, rfl⟩
      go_wp2_with fail
      go_ret2
      exact ⟨ret_twoD (by rw [HV.out]; simp) (by rw [HV.out]; rfl), rfl⟩

theorem dec_one (n : Nat) (h : n < 10) : Lib.decDigits n = [digO n] := by rw [Lib.decDigits, dif_pos h]; rfl
theorem dec_two (n : Nat) (h : 10 ≤ n) (h1 : n < 100) : Lib.decDigits n = [digO (n / 10), digO (n % 10)] := by
  rw [Lib.decDigits, dif_neg (by omega), dec_one (n / 10) (by omega)]; rfl
theorem bs_appendD (a b : List UInt8) : bs a ++ bs b = bs (a ++ b) := by
  unfold bs
  apply ByteArray.ext
  rw [ByteArray.data_append]; simp
theorem padded_any (n : Int) (w : World) (h0 : 0 ≤ n) (h1 : n < 100) :
    Calls Tryd.prog 33 #[.int .i64 n] w fun e w' => e = .returned (.string (bs (pad2 n))) ∧ w = w' := by
  by_cases hlt : n < 10
  · go_enter Tryd.func33, Tryd.ntmps33
    go_wp2_with fail
    refine (itoa_small _ _ h0 h1).mono ?_
    rw [dec_one _ (by omega)]
    rintro e w' ⟨rfl, rfl⟩
    go_wp2_with fail
    go_ret
    refine ⟨congrArg (fun x => Ending.returned (.string x)) ?_, rfl⟩
    show bs [48] ++ bs _ = _
    rw [bs_appendD]
    unfold pad2
    rw [show n.toNat / 10 = 0 from by omega, show n.toNat % 10 = n.toNat from by omega]; rfl
  · go_enter Tryd.func33, Tryd.ntmps33
    go_wp2_with fail
    refine (itoa_small _ _ h0 h1).mono ?_
    rintro e w' ⟨rfl, rfl⟩
    go_wp2_with fail
    go_ret
    refine ⟨congrArg (fun x => Ending.returned (.string x)) ?_, rfl⟩
    rw [dec_two _ (by omega) (by omega)]; rfl
end Go.Proofs.YtdaiielhohdgiaaDoor
