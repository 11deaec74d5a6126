/- The names that go no further, and the fields without them: the reference. -/
import Derived.Test.YtdaiielhohdgiaaGreatDoorKFieldsG
import Derived.Test.YtdaiielhohdgiaaGreatDoorKFieldsK
import Derived.Test.YtdaiielhohdgiaaGreatDoorKTextT
namespace Go.Proofs.YtdaiielhohdgiaaGreatDoor
open Go.RowKit

/-- 'append(l, x)' beside blocks that F guards -/
theorem wpList_appG {w0 w : World} {ops : Array Oper} {rest : List Oper} {o : Oper} {a : Act} {Q : Exit → Act → World → Prop} (hgd : o.guard = none) (s x : Operand)
    (ho : o.op = .call { callee := .builtin .append, args := #[s, x], argTypes := #[57, 57] })
    (base B : Nat) (F : Nat → Prop) (v : Value) (l : List (List UInt8)) (t : List UInt8) (hs : a.eval s = v) (hown : ownS w base v l) (hnb : ∀ g, v.ownBlock = some g → ¬ F g) (hF : ∀ g, F g → g < w.heap.size)
    (hb : Below B w0 w) (hBb : B ≤ base) (hbase : base ≤ w.heap.size)
    {g : Nat} (hx : a.eval x = .slice (some ⟨g, 0, none⟩) 1 1) (hlen : l.length + 1 ≤ 4294967296)
    (h : ∀ v' w', Hid (ownS w' base v' (l ++ [t])) → Hid (∀ g, v'.ownBlock = some g → ¬ F g) → Hid (Below B w0 w') → Hid (∀ k, F k → w'.heap[k]? = w.heap[k]?) → Hid (w.heap.size ≤ w'.heap.size) → wpList Tryz.prog ops Q rest (a.put o.dst v') w') (hg : g = w.heap.size := by simp) :
    wpList Tryz.prog ops Q (o :: rest) a (w.alloc (.cells #[.string (bs t)] 9)) := by
  obtain ⟨i0, hi, hz0, hz1, hz2⟩ := info_parts infoS
  subst hg
  refine wpList_append_lies _ hgd s x 57 ho base 9 i0 (.string ⟨#[]⟩) 1 16 Tryz.underlying57 hi hz0 hz1 hz2 rfl (by decide) v l.length _ hs (hown.alloc _) ⟨w.heap.size, 0, none⟩ 1 1 [.string (bs t)] hx rfl
    (World.news_of_block (cs := #[.string (bs t)]) (t := 9) (fr := (0, 0)) (heap_alloc_new w _)) ?_ (by omega) ?_ ?_ ?_ (w.heap.size + 1) (by simp) ?_
  · intro v hv; simp at hv; subst hv; rfl
  · unfold maxLen; omega
  · omega
  · simp; omega
  · intro g cap w' h1 h2 hat hlt
    have hge : ∀ k, v.ownBlock = some k → base ≤ k := fun k hk => (World.ownsRow.lt hown k hk).1
    have hz := h2.size
    rw [World.size_alloc] at hz
    refine h _ w' ?_ ?_ ?_ ?_ ?_
    · have : (l ++ [t]).length = l.length + 1 := by simp
      show ownS _ _ _ _
      unfold ownS
      rw [this]
      simpa [strCs] using h1
    · intro k hk hFk
      have hk' : g = k := by simpa [Value.ownBlock] using hk
      subst hk'
      rcases hat with h3 | h3
      · exact hnb g h3 hFk
      · have := hF g hFk; omega
    · exact (hb.alloc (by omega) _).grown h2 (by simp; omega) (fun k hk => Nat.le_trans hBb (hge k hk))
    · intro k hk
      rw [h2.block k (by have := hF k hk; simp; omega) (fun e => hnb k e.symm hk)]
      exact Below.heap_alloc _ _ _ (hF k hk)
    · show _ ≤ _; omega

theorem own_lit (w : World) (cur : Array Value) (L : List (List UInt8)) (h : cur.toList = strCs L) (hm : L.length ≤ maxLen) : ownS (w.alloc (.cells cur 9)) w.heap.size (.slice (some ⟨w.heap.size, 0, none⟩) L.length L.length) L := by
  have hl : cur.toList.length = L.length := by rw [h]; simp [strCs]
  refine ⟨by simp [strCs], .inr ⟨w.heap.size, L.length, cur, rfl, Nat.le_refl _, heap_alloc_new w _, Nat.le_refl _, hm, ?_, ?_⟩⟩
  · rw [← hl, Array.length_toList, Nat.mul_one]
  · rw [List.take_of_length_le (by omega)]; exact h
theorem split_some {l : List UInt8} {sep : UInt8} (h : 0 < (splitL l sep).length) : splitE l sep = 0 := by
  unfold splitL at h; unfold splitE
  split at h
  · simp at h
  · rename_i h1
    rw [if_neg h1]
    split at h
    · simp at h
    · rename_i a h2
      split at h
      · simp at h
      · rename_i h3
        exact if_neg h3
theorem rtoken_k (x : List UInt8) (w : World) (h : x.length ≤ maxLen) : Calls Tryz.prog 63 #[.string (bs x)] w fun e w' => e = .returned (.bool (token x)) ∧ w = w' := by
  have := rtoken_any (bs x) w (by rw [bs_size]; exact h)
  rwa [bs_data] at this
theorem rsplit44 (x : List UInt8) (w : World) (h : x.length ≤ 4294967290) : Calls Tryz.prog 62 #[.string (bs x), .int .u8 44] w (SplitPost x 44 w) := by
  have := rsplit_any (bs x) 44 w (by rw [bs_size]; exact h)
  rwa [bs_data] at this

set_option maxHeartbeats 4000000 in
set_option maxRecDepth 100000 in
theorem rhop_any (v : Value) (l : List Fld) (w : World) (h : FL w v l) (hs : smallF l) (hl : l.length ≤ 128) (hz : sizeL l ≤ 1073741824) :
    Calls Tryz.prog 27 #[v] w (RetS w (hopL l)) := by
  obtain ⟨A, c, rfl⟩ := h.form
  have HF := Lib.hid h; have HSm : Hid (smallF l) := hs; have HZ : Hid (sizeL l ≤ 1073741824) := hz
  clear h hs hz
  go_enter Tryz.func27, Tryz.ntmps27
  go_wp2_with fail
  refine (rvalues_any _ l conn _ (HF.out.bel ((Below.refl _ _).alloc (Nat.le_refl _) _)) HSm.out (by omega) (by decide)).mono ?_
  rintro e w2 ⟨v2, rfl, hs2, hb2⟩
  have hO2 := (own_lit w _ nine (by rfl) (by decide)).bel hb2
  have HB2 : Hid (Below w.heap.size w w2) := ((Below.refl w.heap.size w).alloc (Nat.le_refl _) _).trans (hb2.mono (by simp))
  have HN2 : Hid (∀ g, v2.ownBlock = some g → w.heap.size < g ∧ g < w2.heap.size) := fun g hg => ⟨by have h := (World.ownsRow.lt hs2 g hg).1; rw [World.size_alloc] at h; omega, (World.ownsRow.lt hs2 g hg).2⟩
  have HO2 := Lib.hid hO2; clear hO2
  have HV := Lib.hid (lenTo_vals l conn)
  have HVL := Lib.hid (vals_len l conn)
  have HR : Hid (hopL l = (valsL l conn).foldl addV nine) := rfl
  generalize valsL l conn = V at *
  have HS2 := Lib.hid hs2.sl
  obtain ⟨A2, c2, rfl⟩ := hs2.form
  clear hs2 hb2
  go_wp2_with fail
  go_loopw [3, 5] (fun o i wr => ∃ k : Nat, k ≤ V.length ∧ i = .int .i64 k ∧ ownS wr w.heap.size o ((V.take k).foldl addV nine) ∧ (∀ g, o.ownBlock = some g → ¬ (Value.slice A2 V.length c2).ownBlock = some g) ∧ SL wr (.slice A2 V.length c2) V ∧ Below w.heap.size w wr ∧ w2.heap.size ≤ wr.heap.size)
    (fun _ i _ => V.length - (intOf i).toNat)
  case atStart => exact ⟨0, Nat.zero_le _, rfl, HO2.out, fun g hg h => absurd (HN2.out g h).1 (by have h2 : w.heap.size = g := (by simpa [Value.ownBlock] using hg); omega), HS2.out, HB2.out, Nat.le_refl _⟩
  case round =>
    obtain ⟨k, hk, rfl, ho, hn, hsl, hb, hw⟩ := hrel
    have HO := Lib.hid ho; have HN := Lib.hid hn; have HS := Lib.hid hsl; have HB := Lib.hid hb; have HW := Lib.hid hw; clear ho hn hsl hb hw HO2 HS2 HB2
    have hvl := HVL.out
    by_cases hlt : k < V.length
    · obtain ⟨b, off, rfl, hbb, hc⟩ := HS.out.get k hlt
      have HT := Lib.hid (addV_step hlt)
      have HX : Hid (V[k].length ≤ 1073741824) := Nat.le_trans (HV.out _ (List.getElem_mem hlt)) HZ.out
      have HLo : Hid (lows ((V.take k).foldl addV nine)) := foldV_lows _ lows_nine
      have HLe : Hid (((V.take k).foldl addV nine).length ≤ 8201) := by
        have h1 := foldV_len (V.take k) nine
        have h3 : (V.take k).length ≤ V.length := List.length_take_le' _ _
        rw [nine_len] at h1
        show _ ≤ _; omega
      have HUp : Hid (lenTo 1073741824 ((V.take k).foldl addV nine)) := lenTo_foldV _ (fun x hx => Nat.le_trans (nine_small x hx) (by omega)) fun x hx => Nat.le_trans (HV.out x (List.mem_of_mem_take hx)) HZ.out
      generalize V[k] = x at *
      generalize (V.take k).foldl addV nine = acc at *
      have hsp := rsplit44 x wr (by have := HX.out; omega)
      have HSP := Lib.hid hsp; clear hsp
      go_wp2_with (go_at_call 62; refine HSP.out.mono ?_; rintro e w3 ⟨p, rfl, hp, hb3⟩; obtain ⟨A3, c3, rfl⟩ := hp.form)
      have HPm : Hid (lenTo 1073741824 (splitL x 44)) := fun y hy => Nat.le_trans (splitK_mem hy) HX.out
      have HPl := Lib.hid (splitK_len x 44)
      have HE0 : Hid (0 < (splitL x 44).length → splitE x 44 = 0) := split_some
      generalize splitE x 44 = E at *
      generalize splitL x 44 = P at *
      have HO3 := Lib.hid (HO.out.bel hb3)
      have HN3 : Hid (∀ g, u3.ownBlock = some g → ¬ ((Value.slice (some ⟨b, off, none⟩) V.length c2).ownBlock = some g ∨ (Value.slice A3 P.length c3).ownBlock = some g)) := by
        rintro g hg (h | h)
        · exact HN.out g hg h
        · have h1 := (World.ownsRow.lt HO.out g hg).2; have h2 := (World.ownsRow.lt hp g h).1; omega
      have HG3 : Hid (∀ g, (Value.slice (some ⟨b, off, none⟩) V.length c2).ownBlock = some g ∨ (Value.slice A3 P.length c3).ownBlock = some g → g < w3.heap.size) := by
        rintro g (hg | hg)
        · have h1 := HN2.out g hg; have := HW.out; have := hb3.size; omega
        · exact (World.ownsRow.lt hp g hg).2
      have HS3 := Lib.hid (HS.out.bel hb3)
      have HQ3 := Lib.hid hp.sl
      have HB3 := Lib.hid (HB.out.trans (hb3.mono HB.out.size))
      have HW3 : Hid (w2.heap.size ≤ w3.heap.size) := Nat.le_trans HW.out hb3.size
      clear hp hb3 HO HN HS HB HW hc hbb
      go_wp2_with fail
      go_loopw [3, 8] (fun o i wr => ∃ j : Nat, j ≤ P.length ∧ i = .int .i64 j ∧ ownS wr w.heap.size o ((P.take j).foldl addN acc) ∧
          (∀ g, o.ownBlock = some g → ¬ ((Value.slice (some ⟨b, off, none⟩) V.length c2).ownBlock = some g ∨ (Value.slice A3 P.length c3).ownBlock = some g)) ∧
          SL wr (.slice (some ⟨b, off, none⟩) V.length c2) V ∧ SL wr (.slice A3 P.length c3) P ∧ Below w.heap.size w wr ∧ w3.heap.size ≤ wr.heap.size) (fun _ i _ => P.length - (intOf i).toNat)
      case atStart => exact ⟨0, Nat.zero_le _, rfl, HO3.out, HN3.out, HS3.out, HQ3.out, HB3.out, Nat.le_refl _⟩
      case round =>
        obtain ⟨j, hj, rfl, ho, hn, hsl, hq, hb, hw⟩ := hrel
        have HO := Lib.hid ho; have HN := Lib.hid hn; have HS := Lib.hid hsl; have HQ := Lib.hid hq; have HB := Lib.hid hb; have HW := Lib.hid hw; clear ho hn hsl hq hb hw HO3 HN3 HS3 HQ3 HB3
        have hpl := HPl.out
        by_cases hjt : j < P.length
        · have hE := HE0.out (by omega)
          subst hE
          obtain ⟨b3, off3, rfl, hbb, hc⟩ := HQ.out.get j hjt
          have HTj := Lib.hid (foldN_step (acc := acc) hjt)
          have HY : Hid (P[j].length ≤ 1073741824) := HPm.out _ (List.getElem_mem hjt)
          have HLoj : Hid (lows ((P.take j).foldl addN acc)) := foldN_lows _ HLo.out
          have HLej : Hid (((P.take j).foldl addN acc).length ≤ 8265) := by
            have h1 := foldN_len (P.take j) acc
            have h4 := HLe.out
            have h3 : (P.take j).length ≤ P.length := List.length_take_le' _ _
            show _ ≤ _; omega
          have HUj : Hid (lenTo 1073741824 ((P.take j).foldl addN acc)) := lenTo_foldN _ HUp.out fun y hy => HPm.out y (List.mem_of_mem_take hy)
          generalize P[j] = y at *
          generalize (P.take j).foldl addN acc = ac2 at *
          have hcall := rtoken_k y wr (by have := HY.out; unfold maxLen; omega)
          have HBC : Hid (Below wr.heap.size wr wr) := Below.refl _ _
          cases hty : token y
          · have HE : Hid (addN ac2 y = ac2) := by show _ = _; unfold addN; rw [hty]; rfl
            rw [hty] at hcall
            go_wp2_with (go_at_call 63; refine hcall.mono ?_; rintro e w' ⟨rfl, rfl⟩)
            go_roundw
            case rel => exact ⟨j + 1, by omega, by go_num, by rw [HTj.out, HE.out]; exact HO.out, HN.out, HS.out, HQ.out, HB.out, HW.out⟩
            case measure => simp [intOf]; omega
          · rw [hty] at hcall
            have hhas := rhas_any _ ac2 y wr HO.out.sl (fun x hx => Nat.le_trans (HUj.out x hx) (by omega)) (by have := HLej.out; omega) (by have := HY.out; omega)
            cases hin : hasN ac2 y
            · have HE : Hid (addN ac2 y = ac2 ++ [lower y]) := by show _ = _; unfold addN; rw [hty, hin]; rfl
              rw [hin] at hhas
              have HHS := Lib.hid hhas
              have HLC : Hid (∀ w, Calls Tryz.prog 65 #[.string (bs y)] w fun e w' => e = .returned (.string (bs (lower y))) ∧ Below w.heap.size w w') := fun w => rlower_l y w (by have := HY.out; omega)
              clear hty hin hhas
              generalize lower y = ly at *
              go_wp2_with (first | (go_at_call 63; refine hcall.mono ?_; rintro e w' ⟨rfl, rfl⟩) | (go_at_call 64; refine HHS.out.mono ?_; rintro e w5 ⟨rfl, hb5⟩; have hc5 := (hb5.cell (p := ⟨b3, off3 + j, none⟩) hbb).trans hc))
              refine (HLC.out _).mono ?_
              rintro e w6 ⟨rfl, hb6⟩
              have HO6 := Lib.hid ((HO.out.bel hb5).bel hb6); have HS6 := Lib.hid ((HS.out.bel hb5).bel hb6); have HQ6 := Lib.hid ((HQ.out.bel hb5).bel hb6)
              have HB6 := Lib.hid ((HB.out.trans (hb5.mono HB.out.size)).trans (hb6.mono (Nat.le_trans HB.out.size hb5.size)))
              have HW6 : Hid (w3.heap.size ≤ w6.heap.size) := Nat.le_trans HW.out (Nat.le_trans hb5.size hb6.size)
              clear hb5 hb6 hc5 hc hcall
              go_wp2_with (at_builtin; refine wpList_appG rfl (.tmp 50) (.tmp 56) rfl w.heap.size w.heap.size (fun g => (Value.slice (some ⟨b, off, none⟩) V.length c2).ownBlock = some g ∨ (Value.slice (some ⟨b3, off3, none⟩) P.length c3).ownBlock = some g) _ ac2 ly rfl HO6.out HN.out (fun g hg => Nat.lt_of_lt_of_le (HG3.out g hg) HW6.out) HB6.out (Nat.le_refl _) HB6.out.size rfl (by have := HLej.out; omega) ?_; intro v7 w7 HO7 HN7 HB7 HK7 HZ7)
              go_roundw
              case rel => exact ⟨j + 1, by omega, by go_num, by rw [HTj.out, HE.out]; exact HO7.out, HN7.out, HS6.out.at fun g hg => HK7.out g (.inl hg), HQ6.out.at fun g hg => HK7.out g (.inr hg), HB7.out, Nat.le_trans HW6.out HZ7.out⟩
              case measure => simp [intOf]; omega
            · have HE : Hid (addN ac2 y = ac2) := by show _ = _; unfold addN; rw [hty, hin]; rfl
              rw [hin] at hhas
              have HHS := Lib.hid hhas
              clear hty hin hhas
              go_wp2_with (first | (go_at_call 63; refine hcall.mono ?_; rintro e w' ⟨rfl, rfl⟩) | (go_at_call 64; refine HHS.out.mono ?_; rintro e w5 ⟨rfl, hb5⟩))
              go_roundw
              case rel => exact ⟨j + 1, by omega, by go_num, by rw [HTj.out, HE.out]; exact HO.out.bel hb5, HN.out, HS.out.bel hb5, HQ.out.bel hb5, HB.out.trans (hb5.mono HB.out.size), Nat.le_trans HW.out hb5.size⟩
              case measure => simp [intOf]; omega
        · have HA : Hid ((P.take j).foldl addN acc = (V.take (k + 1)).foldl addV nine) := by show _ = _; rw [HT.out, List.take_of_length_le (by omega)]
          go_wp2_with fail
          go_roundw
          case rel => exact ⟨k + 1, by omega, by go_num, by rw [← HA.out]; exact HO.out, fun g hg h => HN.out g hg (.inl h), HS.out, HB.out, Nat.le_trans HW3.out HW.out⟩
          case measure => simp [intOf]; omega
    · have HHR : Hid ((V.take k).foldl addV nine = hopL l) := by show _ = _; rw [HR.out, List.take_of_length_le (by omega)]
      go_wp2_with fail
      go_ret
      exact ⟨_, rfl, by rw [← HHR.out]; exact HO.out, HB.out⟩

end Go.Proofs.YtdaiielhohdgiaaGreatDoor
