/- The statement DirectiveBack's walk. -/
import Derived.Test.YtfjikkaejhihkaaDirP
import Derived.Test.YtfjikkaejhihkaaDirO
import Derived.Test.YtfjikkaejhihkaaTextD
namespace Go.Proofs.Ytfjikkaejhihkaa
open Go.RowKit

theorem grownBy_setD (w : World) (b j : Nat) (v : Value) : w.grownBy (w.setCell ⟨b, j, none⟩ v) (some b) :=
  ⟨rfl, rfl, rfl, (KeepsWalks.setCell w _ v).size, fun k _ hk => Below.heap_setCell _ _ _ k (fun e => hk (by rw [e]))⟩
theorem bs_appD (a b : List UInt8) : bs a ++ bs b = bs (a ++ b) := bs_of (by simp)
set_option maxHeartbeats 8000000 in
set_option maxRecDepth 100000 in
theorem directiveBack_any (v : Value) (l : List Dv) (p : Int) (bv : Value) (w : World) (hv : DL w v l) (hl : ∀ j (hj : j < l.length), l[j].1.length ≤ 1048576 ∧ l[j].2.1.length ≤ 1048576 ∧ l[j].2.2.2.length ≤ 1048576) (hz : l.length ≤ 9223372036854775807) (hp : (Lit.int .u8 p).wf = true) (hb : BLd w bv) (hm : MaxD w) :
    Calls Try.prog 7 #[v, .int .u8 p, bv] w fun e w' => e = .returned (.bool true) ∧ Below w.heap.size w w' := by
  have hpr : 0 ≤ p ∧ p ≤ 255 := by simpa [Lit.wf, IntKind.min, IntKind.max, IntKind.signed, IntKind.bits] using hp
  clear hp
  obtain ⟨n, rfl⟩ : ∃ n : Nat, p = n := ⟨p.toNat, by omega⟩
  have hn : n ≤ 255 := by omega
  clear hpr
  have HM := Lib.hid hm; clear hm
  obtain ⟨A, c, rfl⟩ := hv.form
  obtain ⟨ba, blen, bcap, rfl⟩ := hb.form
  have HV := Lib.hid hv; have HBL := Lib.hid hb; have HLS := Lib.hid hl; clear hv hb hl
  by_cases h40 : 40 < l.length
  · have hi : (40 : Int) < (l.length : Int) := by omega
    go_enter Try.func7, Try.ntmps7
    go_wp2_with fail
    refine (awakeD_any _ HM.out).mono ?_
    rintro e w1 ⟨rfl, hb⟩
    have HB := Lib.hid hb; clear hb
    go_wp2_with fail
    go_ret
    exact ⟨rfl, HB.out⟩
  · have hi : ¬ (40 : Int) < (l.length : Int) := by omega
    have hg1 : gaps (Lib.repeatL [32] (n % 3)) := gaps_repD 32 (by decide) _
    have hg2 : gaps (Lib.repeatL [9] (n / 3 % 3)) := gaps_repD 9 (by decide) _
    have hl1 := Lib.repeatL_length [32] (n % 3)
    have hl2 := Lib.repeatL_length [9] (n / 3 % 3)
    have hr1 := fun w1 => Try.strings_Repeat (⟨#[32]⟩ : ByteArray) (n % 3) w1 (by omega) (by show 1 * (n % 3) ≤ _; omega)
    have hr2 := fun w1 => Try.strings_Repeat (⟨#[9]⟩ : ByteArray) (n / 3 % 3) w1 (by omega) (by show 1 * (n / 3 % 3) ≤ _; omega)
    rw [show ((n % 3 : Nat) : Int) = (n : Int) % 3 from by omega, show (⟨(Lib.repeatL (⟨#[32]⟩ : ByteArray).data.toList (n % 3)).toArray⟩ : ByteArray) = bs (Lib.repeatL [32] (n % 3)) from rfl] at hr1
    rw [show ((n / 3 % 3 : Nat) : Int) = (n : Int) / 3 % 3 from by omega, show (⟨(Lib.repeatL (⟨#[9]⟩ : ByteArray).data.toList (n / 3 % 3)).toArray⟩ : ByteArray) = bs (Lib.repeatL [9] (n / 3 % 3)) from rfl] at hr2
    have hga : gaps (Lib.repeatL [32] (n % 3) ++ Lib.repeatL [9] (n / 3 % 3)) := by
      intro c hc
      rcases List.mem_append.1 hc with h | h
      · exact hg1 c h
      · exact hg2 c h
    generalize Lib.repeatL [32] (n % 3) = r1 at *
    generalize Lib.repeatL [9] (n / 3 % 3) = r2 at *
    have hz1 : r1.length ≤ 2 := by rw [hl1]; simp; omega
    have hz2 : r2.length ≤ 2 := by rw [hl2]; simp; omega
    have hgg := bs_appD r1 r2
    have hgz : (r1 ++ r2).length ≤ 4 := by rw [List.length_append]; omega
    have hr1z : (bs r1).size = r1.length := bs_size r1
    have hr2z : (bs r2).size = r2.length := bs_size r2
    have t3 : Int.tmod (n : Int) 3 = (n : Int) % 3 := Int.tmod_eq_emod_of_nonneg (by omega)
    have d3 : Int.tdiv (n : Int) 3 = (n : Int) / 3 := Int.tdiv_eq_ediv_of_nonneg (by omega)
    have t33 : Int.tmod ((n : Int) / 3) 3 = (n : Int) / 3 % 3 := Int.tmod_eq_emod_of_nonneg (by omega)
    have HR1 := Lib.hid hr1; have HR2 := Lib.hid hr2; have HGA := Lib.hid hga; have HGZ := Lib.hid hgz
    clear hg1 hg2 hl1 hl2 hr1 hr2 hga hgz
    generalize hG : r1 ++ r2 = g at *
    clear hG
    go_enter Try.func7, Try.ntmps7
    go_wp2_with fail
    refine (HR1.out _).mono ?_
    rintro e w1 ⟨rfl, hb1⟩
    have HB1 := Lib.hid hb1; clear hb1
    go_wp2_with fail
    refine (HR2.out _).mono ?_
    rintro e w2 ⟨rfl, hb2⟩
    have HB2 := Lib.hid (HB1.out.trans (hb2.mono HB1.out.size)); clear hb2 HB1
    go_wp2_with fail
    clear hgg hr1z hr2z t3 d3 t33 HR1 HR2 hz1 hz2
    go_loopw [8, 9, 10] (fun s u i wr => ∃ (k : Nat) (W : List (List UInt8)) (M : List Dv), k ≤ l.length ∧ i = .int .i64 k ∧ s = .string (bs (g ++ glued g W)) ∧ ownD wr w.heap.size u M ∧ BackP g W M k ∧ Below w.heap.size w wr) (fun _ _ i _ => l.length - (intOf i).toNat)
    case atStart => exact ⟨0, [], [], Nat.zero_le _, rfl, by simp [glued], ownD_nil _ _, BackP.nil HGZ.out, HB2.out⟩
    case round =>
      obtain ⟨k, W, M, hk, rfl, rfl, ho, hbp, hb⟩ := hrel
      have hk40 : k ≤ 40 := by omega
      have hml : M.length + 1 ≤ 4294967296 := by have := hbp.eqlen; omega
      have hT := hbp.siz
      have HO := Lib.hid ho; have HBP := Lib.hid hbp; have HB := Lib.hid hb; have HML := Lib.hid hml
      clear ho hbp hb hml HB2
      obtain ⟨T, hTe⟩ : ∃ T, T = g ++ glued g W := ⟨_, rfl⟩
      rw [← hTe] at hT
      rw [← hTe]
      have HTE := Lib.hid hTe; clear hTe
      have hT4 : T.length ≤ 40000 := by omega
      clear hT
      by_cases hlt : k < l.length
      · obtain ⟨b, off, rfl, hbl, e0, e1, e2, e3⟩ := (HV.out.bel HB.out).get k hlt
        obtain ⟨z1, z2, -⟩ := HLS.out k hlt
        have hlx := fun W => lower_any (bs l[k].1) W (by rw [bs_size]; unfold maxLen; omega)
        have hqy := fun W => quote_any (bs l[k].2.1) W (by rw [bs_size]; omega)
        have hty := fun W => token_any (bs l[k].2.1) W (by rw [bs_size]; unfold maxLen; omega)
        have hlm := lower_idem l[k].1
        have hln := lower_len l[k].1
        have htm := fun W => token_any (bs (lower l[k].1)) W (by rw [bs_size, hln]; unfold maxLen; omega)
        simp only [bs_data] at hlx hqy hty htm
        generalize l[k] = d at *
        obtain ⟨x, y, h, f⟩ := d
        simp only at e0 e1 e2 e3 z1 z2 hlx hqy hty htm hlm hln
        have HNG := Lib.hid (fun W (hb : Below wr.heap.size wr W) => And.intro ((hb.cell (p := ⟨b, off + k * 4, none⟩) hbl).trans e0) (And.intro ((hb.cell (p := ⟨b, off + k * 4 + 1, none⟩) hbl).trans e1) ((hb.cell (p := ⟨b, off + k * 4 + 2, none⟩) hbl).trans e2)))
        clear e0 e1 e2 e3
        generalize lower x = m at *
        have HLW := Lib.hid hlx; have HQY := Lib.hid hqy; have HTY := Lib.hid hty; have HTT := Lib.hid htm; have HLM := Lib.hid hlm
        have hm1 : m.length ≤ 1048576 := by omega
        clear hlx hqy hty htm hlm hln z1
        obtain ⟨A0, cp0, rfl⟩ := HO.out.form
        go_wp2_with fail
        apply wp_meetD (fun G W' => dbk W' G (dvA (m, y, h, [])) ∧ Below wr.heap.size wr W' ∧ wr.heap.size ≤ G)
        case h1 =>
          refine wp_region_growS (.one 0 false (.one 1 false (.one 2 false (.one 3 false (.one 4 false (.one 6 false (.one 7 false (.one 8 false (.one 9 false (.one 10 false (.one 11 false (.one 12 false (.one 13 false (.one 14 false (.one 15 false (.two 5 17 (.one 16 false (.one 17 true (.one 18 true .done))) (.one 5 true (.one 16 false (.one 18 true .done)))))))))))))))))))
            (fun W => Below wr.heap.size wr W) (by kernel_rfl) (by kernel_rfl) rfl (by kernel_rfl) (by kernel_rfl) ((Below.refl _ _).drew) (fun ops hops => ?_)
          simp only [GT.ins, List.getD_cons_zero, List.getD_cons_succ]
          clear hops
          iterate 15
            refine growS_take (by rfl) ?_
            apply Exists.intro
            refine ⟨fun w' hE => ?_, ?_⟩
            · obtain ⟨q0, q1, q2⟩ := HNG.out w' hE
              go_simp
              try with_reducible rfl
            simp only [Act.put, List.setIfInBounds_toArray, List.set_cons_zero, List.set_cons_succ]
          refine growS_two (by rfl) (by rfl) (fun K hK => ?_) (fun K hK => ?_)
          · go_simp
            refine (HLW.out _).mono ?_
            rintro e x1 ⟨rfl, hb⟩
            have hz := ((Below.refl _ _).drew : Below wr.heap.size wr wr.drew).trans (hb.mono ((Below.refl _ _).drew : Below wr.heap.size wr wr.drew).size)
            refine hK.out _ _ hz ?_
            have HX1 := Lib.hid hz
            clear hK K hb hz
            iterate 1
              refine growS_take (by rfl) ?_
              apply Exists.intro
              refine ⟨fun w' hE => ?_, ?_⟩
              · skip
                go_simp
                try with_reducible rfl
              simp only [Act.put, List.setIfInBounds_toArray, List.set_cons_zero, List.set_cons_succ]
            refine growS_call (by rfl) (fun K hK => ?_)
            go_simp
            have hd1 : Below wr.heap.size wr (x1.alloc (.cells #[.string ⟨#[]⟩, .string ⟨#[]⟩, .bool false, .string ⟨#[]⟩] 29)) := HX1.out.trans (((Below.refl _ _).alloc (Nat.le_refl _) _).mono HX1.out.size)
            have hz1 := res_new x1
            have hgl := HX1.out.size
            refine hK.out _ _ hd1 ?_
            have HX3 := Lib.hid hd1; have HG3 := Lib.hid hz1; have HGL := Lib.hid hgl; clear hK K hd1 hz1 hgl
            generalize (x1.alloc (.cells #[.string ⟨#[]⟩, .string ⟨#[]⟩, .bool false, .string ⟨#[]⟩] 29)) = x3 at *
            generalize x1.heap.size = g10 at HG3 HGL ⊢
            have hqs := HG3.out.zero (m, y, h, [])
            obtain ⟨a0, b0, a1, b1, a2, b2, a3, b3⟩ := hqs
            have hq0 := HG3.out.putd (m, y, h, [])
            have hE9 := putD_below (b := g10) HX3.out HGL.out (m, y, h, [])
            simp only [putD, bs_nil] at a0 a1 a2 a3 b0 b1 b2 b3 hq0 hE9
            have HQ0 := Lib.hid hq0; have HE9 := Lib.hid hE9; clear hq0 hE9
            refine growS_call (by rfl) (fun K hK => ?_)
            go_simp
            refine hK.out _ _ HE9.out ?_
            clear hK K
            refine growS_done (NoPanic.normal ?_)
            exact ⟨g10, rfl, rfl, HQ0.out, HE9.out, HGL.out⟩
          · go_simp
            have hd1 : Below wr.heap.size wr (wr.alloc (.cells #[.string ⟨#[]⟩, .string ⟨#[]⟩, .bool false, .string ⟨#[]⟩] 29)).drew := (((Below.refl _ _).alloc (Nat.le_refl _) _)).drew
            have hz1 : dbk (wr.alloc (.cells #[.string ⟨#[]⟩, .string ⟨#[]⟩, .bool false, .string ⟨#[]⟩] 29)).drew wr.heap.size (dvA dv0) := res_new wr
            refine hK.out _ _ hd1 ?_
            have HX2 := Lib.hid hd1; have HG2 := Lib.hid hz1; clear hK K hd1 hz1
            generalize (wr.alloc (.cells #[.string ⟨#[]⟩, .string ⟨#[]⟩, .bool false, .string ⟨#[]⟩] 29)).drew = x2 at *
            refine growS_call (by rfl) (fun K hK => ?_)
            go_simp
            refine (HLW.out _).mono ?_
            rintro e x3 ⟨rfl, hb⟩
            have hz := HX2.out.trans (hb.mono HX2.out.size)
            refine hK.out _ _ hz ?_
            have HX3 := Lib.hid hz; have HG3 := Lib.hid (HG2.out.below hb); have HGL : Hid (wr.heap.size ≤ wr.heap.size) := Nat.le_refl _
            clear hK K hb hz HG2 HX2
            iterate 1
              refine growS_take (by rfl) ?_
              apply Exists.intro
              refine ⟨fun w' hE => ?_, ?_⟩
              · skip
                go_simp
                try with_reducible rfl
              simp only [Act.put, List.setIfInBounds_toArray, List.set_cons_zero, List.set_cons_succ]
            have hqs := HG3.out.zero (m, y, h, [])
            obtain ⟨a0, b0, a1, b1, a2, b2, a3, b3⟩ := hqs
            have hq0 := HG3.out.putd (m, y, h, [])
            have hE9 := putD_below (b := wr.heap.size) HX3.out HGL.out (m, y, h, [])
            simp only [putD, bs_nil] at a0 a1 a2 a3 b0 b1 b2 b3 hq0 hE9
            have HQ0 := Lib.hid hq0; have HE9 := Lib.hid hE9; clear hq0 hE9
            refine growS_call (by rfl) (fun K hK => ?_)
            go_simp
            refine hK.out _ _ HE9.out ?_
            clear hK K
            refine growS_done (NoPanic.normal ?_)
            exact ⟨wr.heap.size, rfl, rfl, HQ0.out, HE9.out, HGL.out⟩
        case h2 =>
          rintro G wV ⟨hv, hzz, hg⟩
          have HVV := Lib.hid hv; have HG := Lib.hid (Nat.le_trans HB.out.size hg); have HBV := Lib.hid (HB.out.trans (hzz.mono HB.out.size)); have HOV := Lib.hid (HO.out.bel hzz)
          have HNO := Lib.hid (fun j hj => Nat.lt_of_lt_of_le (World.ownsRow.lt HO.out j hj).2 hg)
          clear hv hzz hg HO HB HNG HLW
          obtain ⟨p0, p1, p2, p3⟩ := HVV.out.four
          go_wp2_with fail
          refine (HQY.out _).mono ?_
          rintro e w4 ⟨rfl, hb4⟩
          have HV4 := Lib.hid (HVV.out.below hb4); have HB4 := Lib.hid (HBV.out.trans (hb4.mono HBV.out.size)); have HO4 := Lib.hid (HOV.out.bel hb4)
          clear hb4 HVV HBV HOV p0 p1 p2 p3 HQY
          obtain ⟨p0, p1, p2, p3⟩ := HV4.out.four
          have hmz : (bs m).size = m.length := bs_size m
          have hyz : (bs y).size = y.length := bs_size y
          cases htm : token m
          · rw [htm] at HTT
            clear htm
            go_wp2_with fail
            refine (HTT.out _).mono ?_
            rintro e w5 ⟨rfl, rfl⟩
            go_wp2_with fail
            go_roundw
            case rel => exact ⟨k + 1, W, M, by omega, by go_num, by rw [HTE.out], HO4.out, HBP.out.skip, HB4.out⟩
            case measure => simp [intOf]; omega
          · rw [htm] at HTT
            have HTM := Lib.hid htm; clear htm
            cases hmb : y.all mayB
            · have hqe : quoteE y = 4 := by unfold quoteE; rw [hmb]; rfl
              rw [hqe]
              clear hqe hmb
              go_wp2_with fail
              refine (HTT.out _).mono ?_
              rintro e w5 ⟨rfl, rfl⟩
              go_wp2_with fail
              go_roundw
              case rel => exact ⟨k + 1, W, M, by omega, by go_num, by rw [HTE.out], HO4.out, HBP.out.skip, HB4.out⟩
              case measure => simp [intOf]; omega
            · have hqe : quoteE y = 0 := by unfold quoteE; rw [hmb]; rfl
              rw [hqe]
              have HMB := Lib.hid hmb; clear hqe hmb
              by_cases h200 : 200 < m.length + y.length
              · have h2i : (200 : Int) < (m.length : Int) + (y.length : Int) := by omega
                go_wp2_with fail
                refine (HTT.out _).mono ?_
                rintro e w5 ⟨rfl, rfl⟩
                go_wp2_with fail
                go_roundw
                case rel => exact ⟨k + 1, W, M, by omega, by go_num, by rw [HTE.out], HO4.out, HBP.out.skip, HB4.out⟩
                case measure => simp [intOf]; omega
              · have h2i : ¬ (200 : Int) < (m.length : Int) + (y.length : Int) := by omega
                have hql := quoteS_len y
                have HQL := Lib.hid hql; have HSM : Hid (m.length + y.length ≤ 200) := by show _ ≤ _; omega
                have hm2 : m.length ≤ 200 := by omega
                have hy2 : y.length ≤ 200 := by omega
                have hq2 : (quoteS y).length ≤ 402 := by omega
                have hg4 : g.length ≤ 4 := HGZ.out
                clear hql h200 hm1 z2
                cases h
                · go_wp2_with fail
                  refine (HTT.out _).mono ?_
                  rintro e w5 ⟨rfl, rfl⟩
                  -- no value
                  have f1 := HV4.out.free 1
                  have hset : dbk (w4.setCell ⟨G, 1, none⟩ (.string ⟨#[]⟩)) G (dvA (m, [], false, [])) := by
                    have h := HV4.out.set 1 (.string ⟨#[]⟩)
                    simpa [dvA, bs_nil] using h
                  obtain ⟨c0, c1, c2, c3⟩ := hset.four
                  have hbs := HB4.out.setCell (p := ⟨G, 1, none⟩) HG.out (.string ⟨#[]⟩)
                  have hos : ownD (w4.setCell ⟨G, 1, none⟩ (.string ⟨#[]⟩)) w.heap.size (.slice A0 M.length cp0) M :=
                    World.ownsRow.kept HO4.out (grownBy_setD w4 G 1 (.string ⟨#[]⟩)) (.inr fun e => Nat.lt_irrefl _ (HNO.out G e))
                  have HO5 := Lib.hid hos; have HB5 := Lib.hid hbs; clear hset hbs hos
                  simp only [bs_nil] at c0 c1 c2 c3 p0 p1 p2 p3
                  go_wp2_with (at_builtin; refine wpList_appDS rfl (.tmp 120) (.tmp 122) rfl w.heap.size w.heap.size _ _ (m, [], false, []) rfl HO5.out HB5.out (Nat.le_refl _) HB5.out.size rfl HML.out ?_; intro v' w' HO6 HB6 HK6)
                  go_roundw
                  case rel => exact ⟨k + 1, W ++ [m], M ++ [(m, [], false, [])], by omega, by go_num, by rw [glued_snoc, ← List.append_assoc, ← HTE.out]; exact congrArg Value.string (bs_of (by simp)).symm, HO6.out, HBP.out.step HGZ.out (say_alone HTM.out HLM.out) (piece_token HTM.out) (by omega), HB6.out⟩
                  case measure => simp [intOf]; omega
                · simp only [bs_nil] at p0 p1 p2 p3
                  rcases HBL.out.below HB4.out with ⟨a', c', he⟩ | ⟨b', o', l', c', j0, j1, he, j3, j4⟩
                  · simp only [Value.slice.injEq] at he
                    obtain ⟨rfl, rfl, rfl⟩ := he
                    go_wp2_with fail
                    refine (HTT.out _).mono ?_
                    rintro e w5 ⟨rfl, rfl⟩
                    go_wp2_with (at_builtin; refine wpList_appDS rfl (.tmp 120) (.tmp 122) rfl w.heap.size w.heap.size _ _ (m, y, true, []) rfl HO4.out HB4.out (Nat.le_refl _) HB4.out.size rfl HML.out ?_; intro v' w' HO6 HB6 HK6)
                    go_roundw
                    case rel => exact ⟨k + 1, W ++ [(m ++ 61 :: quoteS y)], M ++ [(m, y, true, [])], by omega, by go_num, by rw [glued_snoc, ← List.append_assoc, ← HTE.out]; exact congrArg Value.string (bs_of (by simp)).symm, HO6.out, HBP.out.step HGZ.out (say_quoted HTM.out HLM.out HMB.out) (pieceD_plain HTM.out (piece_quote HMB.out)) (by simp only [List.length_append, List.length_cons]; omega), HB6.out⟩
                    case measure => simp [intOf]; omega
                  · simp only [Value.slice.injEq] at he
                    obtain ⟨rfl, rfl, rfl⟩ := he
                    have hmod : Int.tmod (k : Int) (blen : Int) = ((k % blen : Nat) : Int) := by rw [Int.tmod_eq_emod_of_nonneg (by omega)]; omega
                    have hml2 : k % blen < blen := Nat.mod_lt _ j0
                    have hmi : ((k % blen : Nat) : Int) < (blen : Int) := by omega
                    have hbi : (0 : Int) < (blen : Int) := by omega
                    obtain ⟨u, hu, hcu⟩ := j4 (k % blen) hml2
                    generalize k % blen = r at *
                    clear j4
                    by_cases hodd : u % 2 = 1
                    · have m2 : Int.tmod (u : Int) 2 = 1 := by rw [Int.tmod_eq_emod_of_nonneg (by omega)]; omega
                      cases htv : token y
                      · rw [htv] at HTY
                        clear htv hodd
                        go_wp2_with fail
                        refine (HTT.out _).mono ?_
                        rintro e w5 ⟨rfl, rfl⟩
                        go_wp2_with fail
                        refine (HTY.out _).mono ?_
                        rintro e w5 ⟨rfl, rfl⟩
                        go_wp2_with (at_builtin; refine wpList_appDS rfl (.tmp 120) (.tmp 122) rfl w.heap.size w.heap.size _ _ (m, y, true, []) rfl HO4.out HB4.out (Nat.le_refl _) HB4.out.size rfl HML.out ?_; intro v' w' HO6 HB6 HK6)
                        go_roundw
                        case rel => exact ⟨k + 1, W ++ [(m ++ 61 :: quoteS y)], M ++ [(m, y, true, [])], by omega, by go_num, by rw [glued_snoc, ← List.append_assoc, ← HTE.out]; exact congrArg Value.string (bs_of (by simp)).symm, HO6.out, HBP.out.step HGZ.out (say_quoted HTM.out HLM.out HMB.out) (pieceD_plain HTM.out (piece_quote HMB.out)) (by simp only [List.length_append, List.length_cons]; omega), HB6.out⟩
                        case measure => simp [intOf]; omega
                      · rw [htv] at HTY
                        have HTV := Lib.hid htv
                        clear htv hodd
                        go_wp2_with fail
                        refine (HTT.out _).mono ?_
                        rintro e w5 ⟨rfl, rfl⟩
                        go_wp2_with fail
                        refine (HTY.out _).mono ?_
                        rintro e w5 ⟨rfl, rfl⟩
                        go_wp2_with (at_builtin; refine wpList_appDS rfl (.tmp 120) (.tmp 122) rfl w.heap.size w.heap.size _ _ (m, y, true, []) rfl HO4.out HB4.out (Nat.le_refl _) HB4.out.size rfl HML.out ?_; intro v' w' HO6 HB6 HK6)
                        go_roundw
                        case rel => exact ⟨k + 1, W ++ [(m ++ 61 :: y)], M ++ [(m, y, true, [])], by omega, by go_num, by rw [glued_snoc, ← List.append_assoc, ← HTE.out]; exact congrArg Value.string (bs_of (by simp)).symm, HO6.out, HBP.out.step HGZ.out (say_bare HTM.out HLM.out HTV.out) (pieceD_plain HTM.out (piece_token HTV.out)) (by simp only [List.length_append, List.length_cons]; omega), HB6.out⟩
                        case measure => simp [intOf]; omega
                    · have m2 : Int.tmod (u : Int) 2 = 0 := by rw [Int.tmod_eq_emod_of_nonneg (by omega)]; omega
                      clear hodd
                      go_wp2_with fail
                      refine (HTT.out _).mono ?_
                      rintro e w5 ⟨rfl, rfl⟩
                      go_wp2_with (at_builtin; refine wpList_appDS rfl (.tmp 120) (.tmp 122) rfl w.heap.size w.heap.size _ _ (m, y, true, []) rfl HO4.out HB4.out (Nat.le_refl _) HB4.out.size rfl HML.out ?_; intro v' w' HO6 HB6 HK6)
                      go_roundw
                      case rel => exact ⟨k + 1, W ++ [(m ++ 61 :: quoteS y)], M ++ [(m, y, true, [])], by omega, by go_num, by rw [glued_snoc, ← List.append_assoc, ← HTE.out]; exact congrArg Value.string (bs_of (by simp)).symm, HO6.out, HBP.out.step HGZ.out (say_quoted HTM.out HLM.out HMB.out) (pieceD_plain HTM.out (piece_quote HMB.out)) (by simp only [List.length_append, List.length_cons]; omega), HB6.out⟩
                      case measure => simp [intOf]; omega
      · have hkl : k ≤ 64 := by omega
        have hrd := HBP.out.read HGA.out hkl
        rw [← HTE.out] at hrd
        have hme := HBP.out.eqlen
        have hm40 : M.length ≤ 40 := by omega
        have hmm : ((M.length : Int) != (M.length : Int)) = false := by rw [bne_self_eq_false]
        obtain ⟨A0, cp0, rfl⟩ := HO.out.form
        have hz : Below wr.heap.size wr (wr.alloc (.cells #[.string (bs T)] 9)) := (Below.refl _ _).alloc (Nat.le_refl _) _
        have hls := listD_any _ [T] _ (HM.out.bel (HB.out.trans (hz.mono HB.out.size))) (SL_lit wr T) (fun y hy => by rw [List.mem_singleton.1 hy]; omega) (by simp)
        rw [hrd] at hls
        have HLS2 := Lib.hid hls
        have HW2 := Lib.hid (HO.out.dl.bel hz); have HBz := Lib.hid (HB.out.trans (hz.mono HB.out.size))
        clear hls hz hrd hme HBP HO HB HML
        go_wp2_with fail
        refine HLS2.out.mono ?_
        rintro e w5 ⟨u5, rfl, ho5, hb5⟩
        have HD5 := Lib.hid ho5.dl; have HW5 := Lib.hid (HW2.out.bel hb5); have HB5 := Lib.hid (HBz.out.trans (hb5.mono HBz.out.size))
        clear ho5 hb5 HW2 HBz HLS2
        obtain ⟨A5, c5, rfl⟩ := HD5.out.form
        go_wp2_with fail
        go_loopw [15] (fun i wr2 => ∃ j : Nat, j ≤ M.length ∧ i = .int .i64 j ∧ Below w5.heap.size w5 wr2) (fun i _ => M.length - (intOf i).toNat)
        case atStart => exact ⟨0, Nat.zero_le _, rfl, Below.refl _ _⟩
        case round =>
          obtain ⟨j, hj, rfl, hb⟩ := hrel
          have HBj := Lib.hid hb; clear hb
          by_cases hjt : j < M.length
          · have hji : (j : Int) < (M.length : Int) := by omega
            obtain ⟨g1, o1, rfl, _, e0, e1, e2, e3⟩ := (HD5.out.bel HBj.out).get j hjt
            obtain ⟨g2, o2, rfl, _, f0, f1, f2, f3⟩ := (HW5.out.bel HBj.out).get j hjt
            have hcmp := fun w => run_neqD M[j] M[j] w
            rw [show (!(M[j] == M[j])) = false from by simp] at hcmp
            generalize M[j] = x at *
            generalize bs x.1 = x1 at *
            generalize bs x.2.1 = x2 at *
            generalize bs x.2.2.2 = x4 at *
            generalize x.2.2.1 = x3 at *
            go_wp2_with fail
            go_quiet (fail)
            go_wp2_with fail
            go_roundw
            case rel => exact ⟨j + 1, by omega, by go_num, below_dnD HBj.out _⟩
            case measure => simp [intOf]; omega
          · go_wp2_with fail
            have hb6 := HB5.out.trans (HBj.out.mono HB5.out.size)
            refine (awakeD_any _ (HM.out.bel hb6)).mono ?_
            rintro e w7 ⟨rfl, hb7⟩
            have HB7 := Lib.hid (hb6.trans (hb7.mono hb6.size)); clear hb7 hb6
            go_wp2_with fail
            go_ret
            exact ⟨rfl, HB7.out⟩
end Go.Proofs.Ytfjikkaejhihkaa
