/- The statement SurctlOthers. -/
import Derived.Test.YtonioemenjjajaaSurH
import Derived.Test.YtonioemenjjajaaDirH
import Derived.Test.YtonioemenjjajaaAppSS
namespace Go.Proofs.Ytonioemenjjajaa
open Go.RowKit

/-- 'append(l, x)', where x is the text t -/
theorem wpList_appSx {w0 w : World} {ops : Array Oper} {rest : List Oper} {o : Oper} {a : Act} {Q : Exit → Act → World → Prop} (hgd : o.guard = none) (s x : Operand)
    (ho : o.op = .call { callee := .builtin .append, args := #[s, x], argTypes := #[22, 22] })
    (base B : Nat) (v : Value) (l : List (List UInt8)) (t : List UInt8) {x0 : ByteArray} (hx0 : x0 = bs t) (hs : a.eval s = v) (hown : ownS w base v l) (hb : Below B w0 w) (hBb : B ≤ base) (hbase : base ≤ w.heap.size)
    {g : Nat} (hx : a.eval x = .slice (some ⟨g, 0, none⟩) 1 1) (hlen : l.length + 1 ≤ 4294967296)
    (h : ∀ v' w', Hid (ownS w' base v' (l ++ [t])) → Hid (Below B w0 w') → Hid (∀ b, b < base → w'.heap[b]? = w.heap[b]?) → wpList Try.prog ops Q rest (a.put o.dst v') w') (hg : g = w.heap.size := by simp) :
    wpList Try.prog ops Q (o :: rest) a (w.alloc (.cells #[.string x0] 9)) := by
  subst hx0
  exact wpList_appS hgd s x ho base B v l t hs hown hb hBb hbase hx hlen h hg
theorem more_cat (o : List UInt8) : (⟨#[110, 111, 45, 115, 116, 111, 114, 101, 59]⟩ : ByteArray) ++ bs o ++ ⟨#[44, 32, 99, 111, 110, 116, 101, 110, 116, 61, 34, 69, 83, 73, 47, 49, 46, 48, 34, 59]⟩ ++ bs o ++ ⟨#[44, 32, 109, 97, 120, 45, 97, 103, 101, 61, 49, 59]⟩ ++ bs o = bs (moreV o) := by
  refine bs_of ?_
  simp only [cat_data, bs_data]
  simp [moreV, h1N, h2N, h3N, nosN]

set_option maxRecDepth 100000 in
set_option maxHeartbeats 8000000 in
theorem surctlOthers_any (v : Value) (L : List (List UInt8)) (S O : ByteArray) (w : World) (hv : SL w v L) (hs : ∀ j (hj : j < L.length), L[j].length ≤ 9223372036854775807) (hl : L.length ≤ 9223372036854775807) (hS : S.size ≤ maxLen) (hO : O.size ≤ maxLen) (hm : MaxD w) :
    Calls Try.prog 6 #[v, .string S, .string O] w fun e w' => e = .returned (.bool true) ∧ Below w.heap.size w w' := by
  obtain ⟨dv, rfl⟩ : ∃ dv, S = bs dv := ⟨S.data.toList, rfl⟩
  obtain ⟨o, rfl⟩ : ∃ o, O = bs o := ⟨O.data.toList, rfl⟩
  rw [bs_size] at hS hO
  unfold maxLen at hS hO
  have HF := Lib.hid (fewV_any v L w hv hs hl)
  have HM := Lib.hid hm; have HV := Lib.hid hv
  obtain ⟨A, cA, rfl⟩ := hv.form
  clear hs hl hm hv
  cases hq : fewV L
  · rw [hq] at HF
    clear hq
    go_enter Try.func6, Try.ntmps6
    go_wp2_with fail
    refine HF.out.mono ?_
    rintro e w1 ⟨rfl, rfl⟩
    go_wp2_with fail
    refine (sworks_any _ HM.out).mono ?_
    rintro e w2 ⟨rfl, hb⟩
    have HB := Lib.hid hb; clear hb
    go_wp2_with fail
    go_ret
    exact ⟨rfl, HB.out⟩
  · obtain ⟨h1, h2⟩ := fewV_small hq
    rw [hq] at HF
    clear hq
    by_cases h3 : 300 < dv.length
    · have hi : (300 : Int) < (dv.length : Int) := by omega
      go_enter Try.func6, Try.ntmps6
      go_wp2_with fail
      refine HF.out.mono ?_
      rintro e w1 ⟨rfl, rfl⟩
      go_wp2_with fail
      refine (sworks_any _ HM.out).mono ?_
      rintro e w2 ⟨rfl, hb⟩
      have HB := Lib.hid hb; clear hb
      go_wp2_with fail
      go_ret
      exact ⟨rfl, HB.out⟩
    · have hi : ¬ (300 : Int) < (dv.length : Int) := by omega
      by_cases h4 : 300 < o.length
      · have hi2 : (300 : Int) < (o.length : Int) := by omega
        go_enter Try.func6, Try.ntmps6
        go_wp2_with fail
        refine HF.out.mono ?_
        rintro e w1 ⟨rfl, rfl⟩
        go_wp2_with fail
        refine (sworks_any _ HM.out).mono ?_
        rintro e w2 ⟨rfl, hb⟩
        have HB := Lib.hid hb; clear hb
        go_wp2_with fail
        go_ret
        exact ⟨rfl, HB.out⟩
      · have hi2 : ¬ (300 : Int) < (o.length : Int) := by omega
        by_cases h5 : 9 < L.length
        · have hi3 : (9 : Int) < (L.length : Int) := by omega
          go_enter Try.func6, Try.ntmps6
          go_wp2_with fail
          refine HF.out.mono ?_
          rintro e w1 ⟨rfl, rfl⟩
          go_wp2_with fail
          refine (sworks_any _ HM.out).mono ?_
          rintro e w2 ⟨rfl, hb⟩
          have HB := Lib.hid hb; clear hb
          go_wp2_with fail
          go_ret
          exact ⟨rfl, HB.out⟩
        · have hi3 : ¬ (9 : Int) < (L.length : Int) := by omega
          have hall : ∀ d ∈ listS L, DvN 3000 d := fun d hd => listS_at h2 hd
          have hln := listS_len L
          have hoc : ofC L dv = ctlOf (mineS (listS L) dv) := rfl
          have htn := torn_no L dv
          have hof := fun (W : World) (h0 : MaxD W) (h : SL W (.slice A L.length cA) L) => sof_any _ L dv W h0 h h2 (by omega)
          have hof2 := fun (W : World) (v : Value) (h0 : MaxD W) (h : SL W v (L ++ [tornV])) => sof_any v (L ++ [tornV]) dv W h0 h (fun x hx => by rcases List.mem_append.1 hx with hx | hx; exact h2 x hx; rw [List.mem_singleton.1 hx]; decide) (by simp; omega)
          have hof3 := fun (W : World) (v : Value) (h0 : MaxD W) (h : SL W v (moreV o :: L)) => sof_any v (moreV o :: L) dv W h0 h (fun x hx => by rcases List.mem_cons.1 hx with rfl | hx; have := more_len o; omega; exact h2 x hx) (by simp; omega)
          have hmore := fun (ht : token o = true) (hne : o ≠ dv) => more_same ht hne L
          have hls := fun (W : World) (h0 : MaxD W) (h : SL W (.slice A L.length cA) L) => slist_any _ L W h0 h (fun x hx => by have := h2 x hx; omega) (by omega)
          generalize listS L = l at *
          have hml := mineS_len l dv
          have hmm : ∀ d ∈ mineS l dv, DvN 3000 d := fun d hd => hall d (mineS_mem hd)
          have hmn := fun (W : World) (v : Value) (h : DL W v l) => smine_any v l dv W h (fun j hj => by have h := hall _ (List.getElem_mem hj); obtain ⟨a, b, c⟩ := h; exact ⟨by omega, by omega, by omega⟩) (by omega)
          have hmi := mine_mine l dv
          generalize mineS l dv = m at *
          have hmn2 := fun (W : World) (v : Value) (h : DL W v m) => smine_any v m dv W h (fun j hj => by have h := hmm _ (List.getElem_mem hj); obtain ⟨a, b, c⟩ := h; exact ⟨by omega, by omega, by omega⟩) (by omega)
          rw [hmi] at hmn2
          have hown := fun k (h : ownTo m dv k = true) => own_no h
          rw [← hoc] at hown
          generalize ofC L dv = c at *
          generalize ofC (L ++ [tornV]) dv = d at *
          have hcmp := run_eqlC c c
          rw [beq_self_eq_true] at hcmp
          have hct : (Value.agg (ctA c)) = .agg #[.bool c.1, .bool c.2.1, .bool c.2.2.1, .bool c.2.2.2.1, .int .i64 c.2.2.2.2.1, .int .i64 c.2.2.2.2.2] := rfl
          have hdt : (Value.agg (ctA d)) = .agg #[.bool d.1, .bool d.2.1, .bool d.2.2.1, .bool d.2.2.2.1, .int .i64 d.2.2.2.2.1, .int .i64 d.2.2.2.2.2] := rfl
          rw [hct] at hof
          rw [hdt] at hof2
          have HOF := Lib.hid hof; have HOF2 := Lib.hid hof2; have HOF3 := Lib.hid hof3; have HMORE := Lib.hid hmore; have HLS := Lib.hid hls; have HMN := Lib.hid hmn; have HMN2 := Lib.hid hmn2; have HOWN := Lib.hid hown; have HTN := Lib.hid htn; have HCMP := Lib.hid hcmp
          have HML : Hid (m.length ≤ 4294967296 ∧ L.length ≤ 9 ∧ o.length ≤ 300) := by show _ ∧ _ ∧ _; omega
          have HSTEP := Lib.hid (fun k (hk : k < m.length) => ownTo_step m dv k hk)
          clear hall hln hoc htn hof hof2 hof3 hmore hls hml hmm hmn hmi hmn2 hown hcmp hct hdt h1 h2 h3 h4 h5 hS hO
          go_enter Try.func6, Try.ntmps6
          go_wp2_with fail
          refine HF.out.mono ?_
          rintro e w1 ⟨rfl, rfl⟩
          go_wp2_with fail
          refine (HOF.out _ HM.out HV.out).mono ?_
          rintro e w1 ⟨rfl, hb1⟩
          have hal : Below w1.heap.size w1 (w1.alloc (.cells #[.bool c.1, .bool c.2.1, .bool c.2.2.1, .bool c.2.2.2.1, .int .i64 c.2.2.2.2.1, .int .i64 c.2.2.2.2.2] 32)) := (Below.refl _ _).alloc (Nat.le_refl _) _
          have hd : dbk (w1.alloc (.cells #[.bool c.1, .bool c.2.1, .bool c.2.2.1, .bool c.2.2.2.1, .int .i64 c.2.2.2.2.1, .int .i64 c.2.2.2.2.2] 32)) w1.heap.size (ctA c) := dbk.new w1 _ _
          have HB1 := Lib.hid (hb1.trans (hal.mono hb1.size)); have HC1 := Lib.hid hd
          clear hb1 hal hd HF
          go_wp2_with fail
          generalize hcb : w1.heap.size = cb at *
          generalize (w1.alloc (.cells #[.bool c.1, .bool c.2.1, .bool c.2.2.1, .bool c.2.2.2.1, .int .i64 c.2.2.2.2.1, .int .i64 c.2.2.2.2.2] 32)) = X1 at *
          clear hcb
          refine (HLS.out _ (HM.out.bel HB1.out) (HV.out.bel HB1.out)).mono ?_
          rintro e X2 ⟨u1, rfl, ho, hb⟩
          have HO2 := Lib.hid ho.dl; have HB2 := Lib.hid (HB1.out.trans (hb.mono HB1.out.size)); have HC2 := Lib.hid (HC1.out.below hb)
          clear ho hb HB1 HC1 HLS
          go_wp2_with fail
          refine (HMN.out _ _ HO2.out).mono ?_
          rintro e X3 ⟨u2, rfl, ho, hb⟩
          have HO3 := Lib.hid ho.dl; have HB3 := Lib.hid (HB2.out.trans (hb.mono HB2.out.size)); have HC3 := Lib.hid (HC2.out.below hb)
          clear ho hb HB2 HC2 HO2 HMN
          go_wp2_with fail
          refine (HMN2.out _ _ HO3.out).mono ?_
          rintro e X4 ⟨u3, rfl, ho, hb⟩
          have HO4 := Lib.hid (HO3.out.bel hb); have HP4 := Lib.hid ho.dl; have HB4 := Lib.hid (HB3.out.trans (hb.mono HB3.out.size)); have HC4 := Lib.hid (HC3.out.below hb)
          clear ho hb HB3 HC3 HO3 HMN2
          go_wp2_with fail
          refine (rsameD_any _ _ _ _ _ HP4.out HO4.out HML.out.1).mono ?_
          rw [show (m == m) = true from beq_self_eq_true m]
          rintro e X5 ⟨rfl, hb⟩
          have HO5 := Lib.hid (HO4.out.bel hb); have HB5 := Lib.hid (HB4.out.trans (hb.mono HB4.out.size)); have HC5 := Lib.hid (HC4.out.below hb)
          clear hb HB4 HC4 HO4 HP4
          go_wp2_with (first | (at_builtin; refine wpList_appSS rfl (.tmp 46) (.tmp 47) rfl X5.heap.size X5.heap.size _ _ [] L rfl (ownS_nil _ _) (Below.refl X5.heap.size X5) (Nat.le_refl _) (Nat.le_refl _) rfl (HV.out.bel HB5.out) (by have := HML.out.2.1; simp only [List.length_nil]; omega) ?_; rw [List.nil_append]; intro v6 X6 HT6 HX6 HK6 HS6; have tok1 : True := trivial) | (at_builtin; refine wpList_appS rfl (.tmp 49) (.tmp 50) rfl X5.heap.size X5.heap.size _ _ tornV rfl HT6.out HX6.out (Nat.le_refl _) HX6.out.size rfl (by have := HML.out.2.1; omega) ?_; intro v7 X7 HT7 HX7 HK7; clear tok1))
          have HB7 := Lib.hid (HB5.out.trans (HX7.out.mono HB5.out.size)); have HC7 := Lib.hid (HC5.out.below HX7.out); have HO7 := Lib.hid (HO5.out.bel HX7.out)
          clear HX6 HK6 HS6 HT6 HX7 HK7 HB5 HC5 HO5
          refine (HOF2.out _ _ (HM.out.bel HB7.out) HT7.out.sl).mono ?_
          rintro e X8 ⟨rfl, hb⟩
          have hal : Below X8.heap.size X8 (X8.alloc (.cells #[.bool d.1, .bool d.2.1, .bool d.2.2.1, .bool d.2.2.2.1, .int .i64 d.2.2.2.2.1, .int .i64 d.2.2.2.2.2] 32)) := (Below.refl _ _).alloc (Nat.le_refl _) _
          have hd : dbk (X8.alloc (.cells #[.bool d.1, .bool d.2.1, .bool d.2.2.1, .bool d.2.2.2.1, .int .i64 d.2.2.2.2.1, .int .i64 d.2.2.2.2.2] 32)) X8.heap.size (ctA d) := dbk.new X8 _ _
          have hb9 := hb.trans (hal.mono hb.size)
          have HB9 := Lib.hid (HB7.out.trans (hb9.mono HB7.out.size)); have HC9 := Lib.hid (HC7.out.below hb9); have HO9 := Lib.hid (HO7.out.bel hb9); have HD9 := Lib.hid hd
          clear hb hal hd hb9 HB7 HC7 HO7 HT7 HOF2
          obtain ⟨A3, c3, rfl⟩ := HO9.out.form
          go_wp2_with fail
          generalize hdb : X8.heap.size = db at *
          generalize (X8.alloc (.cells #[.bool d.1, .bool d.2.1, .bool d.2.2.1, .bool d.2.2.2.1, .int .i64 d.2.2.2.2.1, .int .i64 d.2.2.2.2.2] 32)) = X9 at *
          clear hdb
          go_loop [11, 12] (fun ow i => ∃ k : Nat, k ≤ m.length ∧ i = .int .i64 k ∧ ow = .bool (ownTo m dv k)) (fun _ i => m.length - (intOf i).toNat)
          case atStart => exact ⟨0, Nat.zero_le _, rfl, rfl⟩
          case round =>
            obtain ⟨k, hk, rfl, rfl⟩ := hrel
            have hmb := HML.out.1
            by_cases hlt : k < m.length
            · obtain ⟨b, off, rfl, hbl, e0, e1, e2, e3⟩ := HO9.out.get k hlt
              have hst := HSTEP.out k hlt
              generalize m[k] = x at *
              generalize ownTo m dv k = ow at *
              have HST := Lib.hid hst
              clear hst e1 e2 hbl
              cases ow
              · cases hn : x.1 == nosN
                · have q1 : ((bs x.1).toList == [110, 111, 45, 115, 116, 111, 114, 101]) = false := by rw [beq_bl]; exact hn
                  have HN : Hid (ownTo m dv (k + 1) = false) := by show _ = _; rw [HST.out, hn]; rfl
                  clear HST
                  go_wp2_with fail
                  go_round
                  case rel => exact ⟨k + 1, by omega, by go_num, by rw [HN.out]⟩
                  case measure => simp [intOf]; omega
                · have q1 : ((bs x.1).toList == [110, 111, 45, 115, 116, 111, 114, 101]) = true := by rw [beq_bl]; exact hn
                  cases hf : x.2.2.2 == dv
                  · have q2 : ((bs x.2.2.2).toList == (bs dv).toList) = false := by rw [beq_bs]; exact hf
                    have HN : Hid (ownTo m dv (k + 1) = false) := by show _ = _; rw [HST.out, hn, hf]; rfl
                    clear HST
                    go_wp2_with fail
                    go_round
                    case rel => exact ⟨k + 1, by omega, by go_num, by rw [HN.out]⟩
                    case measure => simp [intOf]; omega
                  · have q2 : ((bs x.2.2.2).toList == (bs dv).toList) = true := by rw [beq_bs]; exact hf
                    have HN : Hid (ownTo m dv (k + 1) = true) := by show _ = _; rw [HST.out, hn, hf]; rfl
                    clear HST
                    go_wp2_with fail
                    go_round
                    case rel => exact ⟨k + 1, by omega, by go_num, by rw [HN.out]⟩
                    case measure => simp [intOf]; omega
              · have HN : Hid (ownTo m dv (k + 1) = true) := by show _ = _; rw [HST.out]; rfl
                clear HST
                go_wp2_with fail
                go_round
                case rel => exact ⟨k + 1, by omega, by go_num, by rw [HN.out]⟩
                case measure => simp [intOf]; omega
            · have how := HOWN.out k
              generalize ownTo m dv k = ow at *
              have HOW := Lib.hid how
              clear how
              have s0 : X9.cell? ⟨db, 0, none⟩ = some (.bool d.1) := HD9.out.cell 0 _ rfl
              rw [HTN.out] at s0
              have r0 : X9.cell? ⟨cb, 0, none⟩ = some (.bool c.1) := HC9.out.cell 0 _ rfl
              have hr : ow = false ∨ (ow = true ∧ c.1 = true) := by
                cases ow
                · exact .inl rfl
                · exact .inr ⟨rfl, HOW.out rfl⟩
              have HR := Lib.hid hr
              clear hr HOW
              have HT := Lib.hid (fun W => token_any (bs o) W (by rw [bs_size]; unfold maxLen; have := HML.out.2.2; omega))
              rcases HR.out with h | ⟨h, hc1⟩
              · subst h
                go_wp2_with fail
                clear s0 r0 HR
                refine (HT.out _).mono ?_
                rw [bs_data]
                cases ht : token o
                · rintro e Y ⟨rfl, rfl⟩
                  go_wp2_with fail
                  refine (sworks_any _ (HM.out.bel HB9.out)).mono ?_
                  rintro e Y1 ⟨rfl, hb⟩
                  have HBY := Lib.hid (HB9.out.trans (hb.mono HB9.out.size)); clear hb
                  go_wp2_with fail
                  go_ret
                  exact ⟨rfl, HBY.out⟩
                · rintro e Y ⟨rfl, rfl⟩
                  by_cases hne : o = dv
                  · have q1 : ((bs o).toList == (bs dv).toList) = true := by rw [beq_bs]; exact beq_iff_eq.2 hne
                    clear hne
                    go_wp2_with fail
                    refine (sworks_any _ (HM.out.bel HB9.out)).mono ?_
                    rintro e Y1 ⟨rfl, hb⟩
                    have HBY := Lib.hid (HB9.out.trans (hb.mono HB9.out.size)); clear hb
                    go_wp2_with fail
                    go_ret
                    exact ⟨rfl, HBY.out⟩
                  · have q1 : ((bs o).toList == (bs dv).toList) = false := by rw [beq_bs]; exact beq_eq_false_iff_ne.2 hne
                    have HEQ := Lib.hid (HMORE.out ht hne)
                    clear hne ht HMORE HT
                    have ho3 := HML.out.2.2
                    have n1 : ¬ 9223372036854775807 < 9 + o.length := by omega
                    have n2 : ¬ 9223372036854775807 < 9 + o.length + 20 := by omega
                    have n3 : ¬ 9223372036854775807 < 9 + o.length + 20 + o.length := by omega
                    have n4 : ¬ 9223372036854775807 < 9 + o.length + 20 + o.length + 12 := by omega
                    have n5 : ¬ 9223372036854775807 < 9 + o.length + 20 + o.length + 12 + o.length := by omega
                    go_wp2_with (first | (at_builtin; refine wpList_appSx rfl (.tmp 99) (.tmp 108) rfl X9.heap.size X9.heap.size _ _ (moreV o) (more_cat o) rfl (ownS_nil _ _) (Below.refl X9.heap.size X9) (Nat.le_refl _) (Nat.le_refl _) rfl (by simp) ?_; rw [List.nil_append]; intro v10 X10 HT10 HX10 HK10; have tok1 : True := trivial) | (at_builtin; refine wpList_appSS rfl (.tmp 110) (.tmp 111) rfl X9.heap.size X9.heap.size _ _ [moreV o] L rfl HT10.out HX10.out (Nat.le_refl _) HX10.out.size rfl ((HV.out.bel HB9.out).bel HX10.out) (by have := HML.out.2.1; simp only [List.length_cons, List.length_nil]; omega) ?_; rw [show [moreV o] ++ L = moreV o :: L from rfl]; intro v11 X11 HT11 HX11 HK11 HS11; clear tok1))
                    have HB11 := Lib.hid (HB9.out.trans (HX11.out.mono HB9.out.size)); have HC11 := Lib.hid (HC9.out.below HX11.out)
                    clear HX10 HK10 HT10 HX11 HK11 HS11 HB9 HC9 HD9 HO9 n1 n2 n3 n4 n5 ho3
                    have hof4 := fun W h0 h => HOF3.out W v11 h0 h
                    rw [HEQ.out, show (Value.agg (ctA c)) = .agg #[.bool c.1, .bool c.2.1, .bool c.2.2.1, .bool c.2.2.2.1, .int .i64 c.2.2.2.2.1, .int .i64 c.2.2.2.2.2] from rfl] at hof4
                    have HOF4 := Lib.hid hof4
                    clear hof4 HOF3 HEQ
                    have hcmp := HCMP.out
                    refine wp_region_growS (.one 0 false (.one 1 false (.one 3 false (.one 2 true (.one 4 false (.one 5 false (.one 6 true (.one 7 false (.one 8 false .done)))))))))
                      (fun W => Below X11.heap.size X11 W) (by kernel_rfl) (by kernel_rfl) rfl (by kernel_rfl) (by kernel_rfl) ((Below.refl _ _).drew) (fun ops hops => ?_)
                    simp only [GT.ins, List.getD_cons_zero, List.getD_cons_succ]
                    have g5 : (ops[5]?).bind (·.dst) = some 118 := by rw [hops.out]; rfl
                    have G5 := Lib.hid g5
                    clear hops g5
                    iterate 3
                      refine growS_take (by rfl) ?_
                      apply Exists.intro
                      refine ⟨fun w' hE => ?_, ?_⟩
                      · obtain ⟨y0, y1, y2, y3, y4, y5⟩ := (HC11.out.below hE).six
                        go_simp
                        try with_reducible rfl
                      simp only [Act.put, List.setIfInBounds_toArray, List.set_cons_zero, List.set_cons_succ]
                    refine growS_call (by rfl) (fun K hK => ?_)
                    go_simp
                    refine (HOF4.out _ (HM.out.bel (HB11.out.trans (((Below.refl _ _).drew : Below X11.heap.size X11 X11.drew).mono HB11.out.size))) (HT11.out.sl.bel ((Below.refl _ _).drew : Below X11.heap.size X11 X11.drew))).mono ?_
                    rintro e z1 ⟨rfl, hb⟩
                    have hz : Below X11.heap.size X11 z1 := (Below.refl _ _).drew.trans hb
                    have HZ1 := Lib.hid hz
                    refine hK.out _ _ hz ?_
                    clear hK K hb hz
                    iterate 2
                      refine growS_take (by rfl) ?_
                      apply Exists.intro
                      refine ⟨fun w' hE => ?_, ?_⟩
                      · obtain ⟨y0, y1, y2, y3, y4, y5⟩ := (HC11.out.below hE).six
                        go_simp
                        try with_reducible rfl
                      simp only [Act.put, List.setIfInBounds_toArray, List.set_cons_zero, List.set_cons_succ]
                    refine growS_call (wantedS G5.out rfl rfl) (fun K hK => ?_)
                    go_simp
                    refine (sworks_any _ (HM.out.bel (HB11.out.trans (HZ1.out.mono HB11.out.size)))).mono ?_
                    rintro e z2 ⟨rfl, hb⟩
                    have hz := HZ1.out.trans (hb.mono HZ1.out.size)
                    have HZ2 := Lib.hid hz
                    refine hK.out _ _ hz ?_
                    clear hK K hb hz HZ1
                    iterate 2
                      refine growS_take (by rfl) ?_
                      apply Exists.intro
                      refine ⟨fun w' hE => ?_, ?_⟩
                      · obtain ⟨y0, y1, y2, y3, y4, y5⟩ := (HC11.out.below hE).six
                        go_simp
                        try with_reducible rfl
                      simp only [Act.put, List.setIfInBounds_toArray, List.set_cons_zero, List.set_cons_succ]
                    refine growS_done (NoPanic.normal ?_)
                    go_wp2_with fail
                    go_ret
                    exact ⟨rfl, HB11.out.trans (HZ2.out.mono HB11.out.size)⟩
              · subst h
                rw [hc1] at r0
                clear hc1
                go_wp2_with fail
                clear s0 r0 HR
                refine (HT.out _).mono ?_
                rw [bs_data]
                cases ht : token o
                · rintro e Y ⟨rfl, rfl⟩
                  go_wp2_with fail
                  refine (sworks_any _ (HM.out.bel HB9.out)).mono ?_
                  rintro e Y1 ⟨rfl, hb⟩
                  have HBY := Lib.hid (HB9.out.trans (hb.mono HB9.out.size)); clear hb
                  go_wp2_with fail
                  go_ret
                  exact ⟨rfl, HBY.out⟩
                · rintro e Y ⟨rfl, rfl⟩
                  by_cases hne : o = dv
                  · have q1 : ((bs o).toList == (bs dv).toList) = true := by rw [beq_bs]; exact beq_iff_eq.2 hne
                    clear hne
                    go_wp2_with fail
                    refine (sworks_any _ (HM.out.bel HB9.out)).mono ?_
                    rintro e Y1 ⟨rfl, hb⟩
                    have HBY := Lib.hid (HB9.out.trans (hb.mono HB9.out.size)); clear hb
                    go_wp2_with fail
                    go_ret
                    exact ⟨rfl, HBY.out⟩
                  · have q1 : ((bs o).toList == (bs dv).toList) = false := by rw [beq_bs]; exact beq_eq_false_iff_ne.2 hne
                    have HEQ := Lib.hid (HMORE.out ht hne)
                    clear hne ht HMORE HT
                    have ho3 := HML.out.2.2
                    have n1 : ¬ 9223372036854775807 < 9 + o.length := by omega
                    have n2 : ¬ 9223372036854775807 < 9 + o.length + 20 := by omega
                    have n3 : ¬ 9223372036854775807 < 9 + o.length + 20 + o.length := by omega
                    have n4 : ¬ 9223372036854775807 < 9 + o.length + 20 + o.length + 12 := by omega
                    have n5 : ¬ 9223372036854775807 < 9 + o.length + 20 + o.length + 12 + o.length := by omega
                    go_wp2_with (first | (at_builtin; refine wpList_appSx rfl (.tmp 99) (.tmp 108) rfl X9.heap.size X9.heap.size _ _ (moreV o) (more_cat o) rfl (ownS_nil _ _) (Below.refl X9.heap.size X9) (Nat.le_refl _) (Nat.le_refl _) rfl (by simp) ?_; rw [List.nil_append]; intro v10 X10 HT10 HX10 HK10; have tok1 : True := trivial) | (at_builtin; refine wpList_appSS rfl (.tmp 110) (.tmp 111) rfl X9.heap.size X9.heap.size _ _ [moreV o] L rfl HT10.out HX10.out (Nat.le_refl _) HX10.out.size rfl ((HV.out.bel HB9.out).bel HX10.out) (by have := HML.out.2.1; simp only [List.length_cons, List.length_nil]; omega) ?_; rw [show [moreV o] ++ L = moreV o :: L from rfl]; intro v11 X11 HT11 HX11 HK11 HS11; clear tok1))
                    have HB11 := Lib.hid (HB9.out.trans (HX11.out.mono HB9.out.size)); have HC11 := Lib.hid (HC9.out.below HX11.out)
                    clear HX10 HK10 HT10 HX11 HK11 HS11 HB9 HC9 HD9 HO9 n1 n2 n3 n4 n5 ho3
                    have hof4 := fun W h0 h => HOF3.out W v11 h0 h
                    rw [HEQ.out, show (Value.agg (ctA c)) = .agg #[.bool c.1, .bool c.2.1, .bool c.2.2.1, .bool c.2.2.2.1, .int .i64 c.2.2.2.2.1, .int .i64 c.2.2.2.2.2] from rfl] at hof4
                    have HOF4 := Lib.hid hof4
                    clear hof4 HOF3 HEQ
                    have hcmp := HCMP.out
                    refine wp_region_growS (.one 0 false (.one 1 false (.one 3 false (.one 2 true (.one 4 false (.one 5 false (.one 6 true (.one 7 false (.one 8 false .done)))))))))
                      (fun W => Below X11.heap.size X11 W) (by kernel_rfl) (by kernel_rfl) rfl (by kernel_rfl) (by kernel_rfl) ((Below.refl _ _).drew) (fun ops hops => ?_)
                    simp only [GT.ins, List.getD_cons_zero, List.getD_cons_succ]
                    have g5 : (ops[5]?).bind (·.dst) = some 118 := by rw [hops.out]; rfl
                    have G5 := Lib.hid g5
                    clear hops g5
                    iterate 3
                      refine growS_take (by rfl) ?_
                      apply Exists.intro
                      refine ⟨fun w' hE => ?_, ?_⟩
                      · obtain ⟨y0, y1, y2, y3, y4, y5⟩ := (HC11.out.below hE).six
                        go_simp
                        try with_reducible rfl
                      simp only [Act.put, List.setIfInBounds_toArray, List.set_cons_zero, List.set_cons_succ]
                    refine growS_call (by rfl) (fun K hK => ?_)
                    go_simp
                    refine (HOF4.out _ (HM.out.bel (HB11.out.trans (((Below.refl _ _).drew : Below X11.heap.size X11 X11.drew).mono HB11.out.size))) (HT11.out.sl.bel ((Below.refl _ _).drew : Below X11.heap.size X11 X11.drew))).mono ?_
                    rintro e z1 ⟨rfl, hb⟩
                    have hz : Below X11.heap.size X11 z1 := (Below.refl _ _).drew.trans hb
                    have HZ1 := Lib.hid hz
                    refine hK.out _ _ hz ?_
                    clear hK K hb hz
                    iterate 2
                      refine growS_take (by rfl) ?_
                      apply Exists.intro
                      refine ⟨fun w' hE => ?_, ?_⟩
                      · obtain ⟨y0, y1, y2, y3, y4, y5⟩ := (HC11.out.below hE).six
                        go_simp
                        try with_reducible rfl
                      simp only [Act.put, List.setIfInBounds_toArray, List.set_cons_zero, List.set_cons_succ]
                    refine growS_call (wantedS G5.out rfl rfl) (fun K hK => ?_)
                    go_simp
                    refine (sworks_any _ (HM.out.bel (HB11.out.trans (HZ1.out.mono HB11.out.size)))).mono ?_
                    rintro e z2 ⟨rfl, hb⟩
                    have hz := HZ1.out.trans (hb.mono HZ1.out.size)
                    have HZ2 := Lib.hid hz
                    refine hK.out _ _ hz ?_
                    clear hK K hb hz HZ1
                    iterate 2
                      refine growS_take (by rfl) ?_
                      apply Exists.intro
                      refine ⟨fun w' hE => ?_, ?_⟩
                      · obtain ⟨y0, y1, y2, y3, y4, y5⟩ := (HC11.out.below hE).six
                        go_simp
                        try with_reducible rfl
                      simp only [Act.put, List.setIfInBounds_toArray, List.set_cons_zero, List.set_cons_succ]
                    refine growS_done (NoPanic.normal ?_)
                    go_wp2_with fail
                    go_ret
                    exact ⟨rfl, HB11.out.trans (HZ2.out.mono HB11.out.size)⟩
end Go.Proofs.Ytonioemenjjajaa
