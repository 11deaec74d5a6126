/- The document's directives of values. -/
import Derived.Test.YtfjikkaejhihkaaDirH
namespace Go.Proofs.Ytfjikkaejhihkaa
open Go.RowKit

/-- the blocks of texts stand -/
def Ks (W W' : World) : Prop := ∀ (b : Nat) (cs : Array Value) (r : Nat × Nat), W.heap[b]? = some (Obj.cells cs 9 r) → W'.heap[b]? = some (Obj.cells cs 9 r)
theorem Ks.bel {W W' : World} (h : Below W.heap.size W W') : Ks W W' := fun b cs r e => by rw [h.block b (Array.getElem?_eq_some_iff.1 e).1]; exact e
theorem Ks.trans {A B C : World} (h : Ks A B) (k : Ks B C) : Ks A C := fun b cs r e => k b cs r (h b cs r e)
theorem ownS.ks {W W' : World} {base : Nat} {v : Value} {L : List (List UInt8)} (h : ownS W base v L) (k : Ks W W') : ownS W' base v L := by
  refine ⟨h.1, ?_⟩
  rcases h.2 with hn | ⟨g, cap, cur, hv, hbg, hg, r⟩
  · exact .inl hn
  · exact .inr ⟨g, cap, cur, hv, hbg, k _ _ _ hg, r⟩
/-- 'append(l, d)', and the blocks of texts stand -/
theorem wpList_appDS {w0 w : World} {ops : Array Oper} {rest : List Oper} {o : Oper} {a : Act} {Q : Exit → Act → World → Prop} (hgd : o.guard = none) (s x : Operand)
    (ho : o.op = .call { callee := .builtin .append, args := #[s, x], argTypes := #[26, 26] })
    (base B : Nat) (v : Value) (l : List Dv) (d : Dv) (hs : a.eval s = v) (hown : ownD w base v l) (hb : Below B w0 w) (hBb : B ≤ base) (hbase : base ≤ w.heap.size)
    {g : Nat} (hx : a.eval x = .slice (some ⟨g, 0, none⟩) 1 1) (hlen : l.length + 1 ≤ 4294967296)
    (h : ∀ v' w', Hid (ownD w' base v' (l ++ [d])) → Hid (Below B w0 w') → Hid (Ks w w') → wpList Try.prog ops Q rest (a.put o.dst v') w') (hg : g = w.heap.size := by simp) :
    wpList Try.prog ops Q (o :: rest) a (w.alloc (.cells #[.string (bs d.1), .string (bs d.2.1), .bool d.2.2.1, .string (bs d.2.2.2)] 29)) := by
  obtain ⟨i0, hi, hz0, hz1, hz2⟩ := info_parts infoD
  subst hg
  refine wpList_append_own _ hgd s x 26 ho base 29 i0 (.agg #[.string ⟨#[]⟩, .string ⟨#[]⟩, .bool false, .string ⟨#[]⟩]) 4 56 Try.underlying26 hi hz0 hz1 hz2 rfl (by decide) v l.length _ hs (hown.alloc _) ⟨w.heap.size, 0, none⟩ 1 1 [.string (bs d.1), .string (bs d.2.1), .bool d.2.2.1, .string (bs d.2.2.2)] hx rfl ?_ ?_ ?_ ?_ ?_ ?_
  · exact World.news_of_block (heap_alloc_new w _)
  · exact one4 d
  · unfold maxLen; omega
  · omega
  · simp; omega
  · intro v' w' h1 h2 _
    have hge : ∀ k, v.ownBlock = some k → base ≤ k := fun k hk => (World.ownsRow.lt hown k hk).1
    refine h v' w' ?_ ?_ ?_
    · have : (l ++ [d]).length = l.length + 1 := by simp
      show ownD _ _ _ _
      unfold ownD
      rw [this, dcs_append]
      exact h1
    · exact (hb.alloc (by omega) _).grown h2 (by simp; omega) (fun k hk => Nat.le_trans hBb (hge k hk))
    · intro b cs r e
      have hlt := (Array.getElem?_eq_some_iff.1 e).1
      refine (h2.block b (by simp; omega) fun e' => ?_).trans ((Below.heap_alloc _ _ _ hlt).trans e)
      rcases hown.2 with ⟨rfl, _⟩ | ⟨g, cap, cur, rfl, _, hg, _⟩
      · cases e'
      · obtain rfl : b = g := by simpa [Value.ownBlock] using e'
        rw [e] at hg
        simp at hg

set_option maxHeartbeats 4000000 in
set_option maxRecDepth 100000 in
theorem rlistD_any (v : Value) (L : List (List UInt8)) (w : World) (hv : SL w v L) (hs : ∀ x ∈ L, x.length ≤ 4294967200) (hl : L.length ≤ 1000000) :
    Calls Try.prog 12 #[v] w fun e w' => ∃ u, e = .returned u ∧ ownD w' w.heap.size u (dirsAll L) ∧ Below w.heap.size w w' := by
  obtain ⟨A, c, rfl⟩ := hv.form
  have HV := Lib.hid hv; have HS := Lib.hid hs; clear hv hs
  go_enter Try.func12, Try.ntmps12
  go_wp2_with fail
  go_loopw [3, 4] (fun u i wr => ∃ k : Nat, k ≤ L.length ∧ i = .int .i64 k ∧ ownD wr w.heap.size u (dirsAll (L.take k)) ∧ Below w.heap.size w wr) (fun _ i _ => L.length - (intOf i).toNat)
  case atStart => exact ⟨0, Nat.zero_le _, rfl, ownD_nil _ _, Below.refl _ _⟩
  case round =>
    obtain ⟨k, hk, rfl, ho, hb⟩ := hrel
    have HO := Lib.hid ho; have HB := Lib.hid hb; clear ho hb
    by_cases hlt : k < L.length
    · obtain ⟨b, off, rfl, hbl, hcell⟩ := (HV.out.bel HB.out).get k hlt
      have hle : L[k].length ≤ 4294967200 := HS.out _ (List.getElem_mem hlt)
      have hsp := fun W => rsplit_any (bs L[k]) 44 W (by rw [bs_size]; omega)
      have hsn := dirsAll_snoc L k hlt
      have hln := dirsAll_len (L.take k)
      rw [List.length_take] at hln
      have hlm : (dirsAll (L.take k)).length ≤ 64000000 := by omega
      rw [bs_data] at hsp
      generalize L[k] = x at *
      have hat := fun y h => splitL_at (l := x) (sep := 44) (x := y) h
      have hl64 := splitL_len x 44
      generalize dirsAll (L.take k) = M at *
      have HSP := Lib.hid hsp; have HSN := Lib.hid hsn; have HAT := Lib.hid hat; have HLM := Lib.hid hlm; have HLE := Lib.hid hle; have HL64 := Lib.hid hl64
      clear hsp hsn hat hlm hln hle hl64
      go_wp2_with fail
      refine (HSP.out _).mono ?_
      rintro e w1 ⟨vs, rfl, hos, hb1⟩
      have HOS := Lib.hid hos; have HB1 := Lib.hid (HB.out.trans (hb1.mono HB.out.size)); have HO1 := Lib.hid (HO.out.bel hb1)
      clear hos hb1 HO HB
      by_cases hE : splitE x 44 = 0
      · have hD : dirs x = (splitL x 44).filterMap sayD := if_pos hE
        rw [hE]
        have HD := Lib.hid hD; clear hD hE
        generalize splitL x 44 = N at *
        obtain ⟨A1, c1, rfl⟩ := HOS.out.form
        obtain ⟨A0, c0, rfl⟩ := HO1.out.form
        go_wp2_with fail
        go_loopw [3, 7] (fun u i wr2 => ∃ j : Nat, j ≤ N.length ∧ i = .int .i64 j ∧ ownD wr2 w.heap.size u (M ++ (N.take j).filterMap sayD) ∧ Below w.heap.size w wr2 ∧ ownS wr2 wr.heap.size (.slice A1 N.length c1) N) (fun _ i _ => N.length - (intOf i).toNat)
        case atStart => exact ⟨0, Nat.zero_le _, rfl, by simpa using HO1.out, HB1.out, HOS.out⟩
        case round =>
          obtain ⟨j, hj, rfl, ho, hb, hos⟩ := hrel
          have HO := Lib.hid ho; have HB := Lib.hid hb; have HN := Lib.hid hos; clear ho hb hos HOS HO1 HB1
          have hn64 := HL64.out
          by_cases hjt : j < N.length
          · obtain ⟨g, rfl, hce⟩ := HN.out.cell j hjt
            rw [show N.getD j [] = N[j] from by simp [List.getD, hjt]] at hce
            have hyl : N[j].length ≤ 4294967200 := Nat.le_trans (HAT.out _ (List.getElem_mem hjt)) HLE.out
            have hsay := fun W => rsay_any (bs N[j]) W (by rw [bs_size]; exact hyl)
            rw [bs_data] at hsay
            have hfs := fmap_snoc sayD N j hjt
            have hfl := List.length_filterMap_le sayD (N.take j)
            rw [List.length_take] at hfl
            have hql : (M ++ (N.take j).filterMap sayD).length + 1 ≤ 4294967296 := by rw [List.length_append]; have := HLM.out; have := HL64.out; omega
            generalize N[j] = y at *
            obtain ⟨Q, hQ⟩ : ∃ Q, M ++ (N.take j).filterMap sayD = Q := ⟨_, rfl⟩
            have hQn : M ++ (N.take (j + 1)).filterMap sayD = Q ++ (sayD y).toList := by rw [hfs, ← List.append_assoc, hQ]
            rw [hQ] at HO hql
            have HQN := Lib.hid hQn; have HQL := Lib.hid hql
            clear hyl hfs hfl hQ hQn hql
            obtain ⟨A2, c2, rfl⟩ := HO.out.form
            cases hd : sayD y with
            | none =>
              rw [hd, Option.toList_none, List.append_nil] at HQN
              have hsy : ∀ W, Calls Try.prog 22 #[.string (bs y)] W fun e w' => e = .returned (.tuple #[.agg #[.string ⟨#[]⟩, .string ⟨#[]⟩, .bool false, .string ⟨#[]⟩], .bool false]) ∧ Below W.heap.size W w' := fun W => by have h := hsay W; rw [hd] at h; exact h
              have HSY := Lib.hid hsy; clear hsy hsay hd
              go_wp2_with fail
              refine (HSY.out _).mono ?_
              rintro e w2 ⟨rfl, hb2⟩
              have hq : Below w2.heap.size w2 (w2.alloc (.cells #[.string ⟨#[]⟩, .string ⟨#[]⟩, .bool false, .string ⟨#[]⟩] 29)) := (Below.refl _ _).alloc (Nat.le_refl _) _
              have HQ := Lib.hid (hb2.trans (hq.mono hb2.size)); clear hb2 hq
              go_wp2_with fail
              go_roundw
              case rel => exact ⟨j + 1, by omega, by go_num, by rw [HQN.out]; exact HO.out.bel HQ.out, HB.out.trans (HQ.out.mono HB.out.size), HN.out.bel HQ.out⟩
              case measure => simp [intOf]; omega
            | some d =>
              rw [hd] at HQN
              have hsy : ∀ W, Calls Try.prog 22 #[.string (bs y)] W fun e w' => e = .returned (.tuple #[.agg #[.string (bs d.1), .string (bs d.2.1), .bool d.2.2.1, .string (bs d.2.2.2)], .bool true]) ∧ Below W.heap.size W w' := fun W => by have h := hsay W; rw [hd] at h; exact h
              have HSY := Lib.hid hsy; clear hsy hsay hd
              go_wp2_with fail
              refine (HSY.out _).mono ?_
              rintro e w2 ⟨rfl, hb2⟩
              have hx : dbk (w2.alloc (.cells #[.string (bs d.1), .string (bs d.2.1), .bool d.2.2.1, .string (bs d.2.2.2)] 29)) w2.heap.size (dvA d) := dbk.new w2 _ _
              obtain ⟨p0, p1, p2, p3⟩ := hx.four
              have hq : Below w2.heap.size w2 (w2.alloc (.cells #[.string (bs d.1), .string (bs d.2.1), .bool d.2.2.1, .string (bs d.2.2.2)] 29)) := (Below.refl _ _).alloc (Nat.le_refl _) _
              have HQ := Lib.hid (hb2.trans (hq.mono hb2.size))
              have HO3 := Lib.hid (HO.out.bel HQ.out); have HB3 := Lib.hid (HB.out.trans (HQ.out.mono HB.out.size)); have HN3 := Lib.hid (HN.out.bel HQ.out)
              clear hb2 hq hx HO HB HN
              go_wp2_with (at_builtin; refine wpList_appDS rfl (.tmp 45) (.tmp 47) rfl w.heap.size w.heap.size _ _ d rfl HO3.out HB3.out (Nat.le_refl _) HB3.out.size rfl HQL.out ?_; intro v' w' HO4 HB4 HK4)
              go_roundw
              case rel => exact ⟨j + 1, by omega, by go_num, by rw [HQN.out]; exact HO4.out, HB4.out, HN3.out.ks HK4.out⟩
              case measure => simp [intOf]; omega
          · have hE : (N.take j).filterMap sayD = dirs x := by rw [List.take_of_length_le (by omega), HD.out]
            rw [hE] at HO
            clear hE HD
            obtain ⟨A2, c2, hA2⟩ := HO.out.form
            go_wp2_with fail
            go_roundw
            case rel => exact ⟨k + 1, by omega, by go_num, by rw [HSN.out]; exact HO.out, HB.out⟩
            case measure => simp [intOf]; omega
      · have hD : dirs x = [noStore] := if_neg hE
        have hN : splitL x 44 = [] := by
          have hb : badSep 44 = false := by decide
          unfold splitE splitL at *
          rw [hb] at hE ⊢
          simp only [Bool.false_eq_true, if_false] at hE ⊢
          split
          · rfl
          · rename_i h
            rw [h] at hE
            simp only at hE
            split
            · rfl
            · rename_i h2; rw [if_neg h2] at hE; exact absurd rfl hE
        have hne : ((splitE x 44) != 0) = true := bne_iff_ne.2 hE
        rw [hN] at HOS
        generalize splitE x 44 = E at *
        rw [hD] at HSN
        clear hD hN hE
        obtain ⟨A1, c1, rfl⟩ := HOS.out.form
        obtain ⟨A0, c0, rfl⟩ := HO1.out.form
        have HQL : Hid (M.length + 1 ≤ 4294967296) := by show _ ≤ _; have := HLM.out; omega
        go_wp2_with (at_builtin; refine wpList_appDS rfl (.tmp 26) (.tmp 28) rfl w.heap.size w.heap.size _ _ noStore rfl HO1.out HB1.out (Nat.le_refl _) HB1.out.size rfl HQL.out ?_; intro v' w' HO4 HB4 HK4)
        go_loopw [3, 7] (fun u i wr2 => u = v' ∧ i = .int .i64 0 ∧ wr2 = w') (fun _ _ _ => 0)
        case atStart => exact ⟨rfl, rfl, rfl⟩
        case round =>
          obtain ⟨rfl, rfl, rfl⟩ := hrel
          go_wp2_with fail
          go_roundw
          case rel => exact ⟨k + 1, by omega, by go_num, by rw [HSN.out]; exact HO4.out, HB4.out⟩
          case measure => simp [intOf]; omega
    · have hE : L.take k = L := List.take_of_length_le (by omega)
      rw [hE] at HO
      clear hE
      obtain ⟨A0, c0, rfl⟩ := HO.out.form
      go_wp2_with fail
      go_ret
      exact ⟨_, rfl, HO.out, HB.out⟩
end Go.Proofs.Ytfjikkaejhihkaa
