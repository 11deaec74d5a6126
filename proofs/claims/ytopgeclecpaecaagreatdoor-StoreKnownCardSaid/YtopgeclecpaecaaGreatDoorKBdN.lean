/- A budget in memory: its own block, the block of the whole, the map, the ring. No function of the program is read here. -/
import Derived.Test.YtopgeclecpaecaaGreatDoorKBdM
namespace Go.Proofs.YtopgeclecpaecaaGreatDoor
open Go.RowKit
/-- how long a key may be -/
abbrev KL : Nat := 140737488355328
theorem KL_le : KL ≤ maxLen := by unfold KL maxLen; omega
section
variable {α : Type} {mk : α → Iv} {P : Program} {kt : TypeId} {w w' : World} {b sb mb n m t : Nat} {Z : Iv} {ns xs zs : List (Nd α)} {y : Nd α}
def its (ns : List (Nd α)) : List (It α) := ns.map (·.2)
theorem its_append (a c : List (Nd α)) : its (a ++ c) = its a ++ its c := by simp [its]
theorem its_keys (ns : List (Nd α)) : keysK (its ns) = ns.map (·.2.1) := by simp [its, keysK]
theorem its_len (ns : List (Nd α)) : (its ns).length = ns.length := by simp [its]
theorem its_split {a c : List (It α)} {z : It α} (h : its ns = a ++ z :: c) : ∃ xs y zs, ns = xs ++ y :: zs ∧ its xs = a ∧ y.2 = z ∧ its zs = c := by
  unfold its at h
  obtain ⟨xs, r, rfl, h1, h2⟩ := List.map_eq_append_iff.1 h
  obtain ⟨y, zs, rfl, h3, h4⟩ := List.map_eq_cons_iff.1 h2
  exact ⟨xs, y, zs, rfl, h1, h3, h4⟩
/-- the blocks of the ring and the map -/
def ringX (sb mb : Nat) (ns : List (Nd α)) (k : Nat) : Prop := k = sb ∨ k = mb ∨ k ∈ blks ns
def ownX (b sb mb : Nat) (ns : List (Nd α)) (k : Nat) : Prop := k = b ∨ ringX sb mb ns k
theorem la_mem (sb o : Nat) : ∀ xs : List (Nd α), (la (sb, o) xs).1 = sb ∨ (la (sb, o) xs).1 ∈ blks xs
  | [] => .inl rfl
  | y :: r => by
    rcases la_mem y.1 0 r with h | h
    · exact .inr (by show (la (y.1, 0) r).1 ∈ y.1 :: blks r; rw [h]; simp)
    · exact .inr (List.mem_cons_of_mem _ h)
theorem na_mem (sb o : Nat) (xs : List (Nd α)) : (na (sb, o) xs).1 = sb ∨ (na (sb, o) xs).1 ∈ blks xs := by
  cases xs with
  | nil => exact .inl rfl
  | cons y r => exact .inr (by simp [na, blks])
theorem blks_append (a c : List (Nd α)) : blks (a ++ c) = blks a ++ blks c := by simp [blks]
theorem ringX_mid {k : Nat} (h : ringX sb mb (xs ++ zs) k) : ringX sb mb (xs ++ y :: zs) k := by
  unfold ringX at *
  rw [blks_append] at *
  show _ ∨ _ ∨ k ∈ blks xs ++ (y.1 :: blks zs)
  rcases h with h | h | h
  · exact .inl h
  · exact .inr (.inl h)
  · rcases List.mem_append.1 h with h | h
    · exact .inr (.inr (List.mem_append_left _ h))
    · exact .inr (.inr (List.mem_append_right _ (List.mem_cons_of_mem _ h)))
theorem Twin.did {X : Nat → Prop} {W : World} (h : Twin w' W) (hs : W.os = w.os) (ht : W.tape = w.tape) (ho : W.output = w.output) (hz : W.heap.size = w.heap.size) (hk : ∀ k, k < w.heap.size → ¬ X k → W.heap[k]? = w.heap[k]?) : Did X X w w' :=
  ⟨h.os.trans hs, h.tape.trans ht, h.output.trans ho, by rw [h.heap, hz]; exact Nat.le_refl _, fun k h1 h2 => by rw [h.heap]; exact hk k h1 h2, fun _ h => .inl h⟩
theorem size_setCell (w : World) (a : Addr) (u : Value) : (w.setCell a u).heap.size = w.heap.size := by simp [World.setCell]
theorem nx {X : Nat → Prop} {k b : Nat} (hk : ¬ X k) (hb : X b) : k ≠ b := fun e => hk (e ▸ hb)
theorem Twin.did1 {X : Nat → Prop} {a : Addr} {u : Value} (h : Twin w' (w.setCell a u)) (ha : X a.block) : Did X X w w' :=
  h.did rfl rfl rfl (size_setCell _ _ _) fun _ _ hx => Below.heap_setCell _ _ _ _ (nx hx ha)
theorem Twin.did2 {X : Nat → Prop} {a c : Addr} {u v : Value} (h : Twin w' ((w.setCell a u).setCell c v)) (ha : X a.block) (hc : X c.block) : Did X X w w' :=
  h.did rfl rfl rfl (by rw [size_setCell, size_setCell]) fun _ _ hx => (Below.heap_setCell _ _ _ _ (nx hx hc)).trans (Below.heap_setCell _ _ _ _ (nx hx ha))
theorem Twin.did4 {X : Nat → Prop} {a c d f : Addr} {u v u' v' : Value} (h : Twin w' ((((w.setCell a u).setCell c v).setCell d u').setCell f v')) (ha : X a.block) (hc : X c.block) (hd : X d.block) (hf : X f.block) : Did X X w w' :=
  h.did rfl rfl rfl (by rw [size_setCell, size_setCell, size_setCell, size_setCell]) fun _ _ hx => (Below.heap_setCell _ _ _ _ (nx hx hf)).trans ((Below.heap_setCell _ _ _ _ (nx hx hd)).trans ((Below.heap_setCell _ _ _ _ (nx hx hc)).trans (Below.heap_setCell _ _ _ _ (nx hx ha))))
theorem Did.turned {X : Nat → Prop} (h : w.mapTurned w' mb) (hX : X mb) : Did X X w w' :=
  ⟨h.grown.os, h.grown.tape, h.grown.output, h.grown.size, fun k hk hx => h.grown.block k hk (fun e => hx (by cases e; exact hX)), fun _ h => .inl h⟩
theorem Did.ofDrew {X X' : Nat → Prop} (h : Did X X' w.drew w') : Did X X' w w' := ⟨h.os, h.tape, h.output, h.size, h.keep, h.new⟩
/-- how a ring's neighbours' cells lie -/
theorem Ring.cellA (h : Ring mk w sb n m t mb Z (xs ++ y :: zs)) : ∃ u, w.cell? ⟨(la (sb, 4) xs).1, (la (sb, 4) xs).2 + 12, none⟩ = some u ∧ w.frozen? ⟨(la (sb, 4) xs).1, (la (sb, 4) xs).2 + 12, none⟩ = false := by
  rcases List.eq_nil_or_concat xs with rfl | ⟨xs', x, rfl⟩
  · exact ⟨_, h.st.cell 16 _ rfl, h.st.free 16⟩
  · have e : la (sb, 4) (xs'.concat x) = (x.1, 0) := by rw [List.concat_eq_append, la_append]; rfl
    rw [e]
    have h1 := h.seg
    rw [List.concat_eq_append, List.append_assoc] at h1
    have h2 := Seg.get (y := x) (zs := y :: zs) h1
    exact ⟨_, h2.cell 12 _ rfl, h2.free 12⟩
theorem Ring.cellB (h : Ring mk w sb n m t mb Z (xs ++ y :: zs)) : ∃ u, w.cell? ⟨(na (sb, 4) zs).1, (na (sb, 4) zs).2 + 11, none⟩ = some u ∧ w.frozen? ⟨(na (sb, 4) zs).1, (na (sb, 4) zs).2 + 11, none⟩ = false := by
  cases zs with
  | nil => exact ⟨_, h.st.cell 15 _ rfl, h.st.free 15⟩
  | cons z zs' =>
    have h1 := h.seg
    rw [show xs ++ y :: z :: zs' = (xs ++ [y]) ++ z :: zs' from by simp] at h1
    have h2 := Seg.get (y := z) h1
    exact ⟨_, h2.cell 11 _ rfl, h2.free 11⟩
theorem Ring.cellL (h : Ring mk w sb n m t mb Z ns) : ∃ u, w.cell? ⟨(la (sb, 4) ns).1, (la (sb, 4) ns).2 + 12, none⟩ = some u ∧ w.frozen? ⟨(la (sb, 4) ns).1, (la (sb, 4) ns).2 + 12, none⟩ = false := by
  rcases List.eq_nil_or_concat ns with rfl | ⟨xs', x, rfl⟩
  · exact ⟨_, h.st.cell 16 _ rfl, h.st.free 16⟩
  · rw [List.concat_eq_append] at *
    have e : la (sb, 4) (xs' ++ [x]) = (x.1, 0) := by rw [la_append]; rfl
    rw [e]
    have h2 := Seg.get (y := x) (zs := []) h.seg
    exact ⟨_, h2.cell 12 _ rfl, h2.free 12⟩
/-- the two neighbours' cells are apart -/
theorem Ring.apart (h : Ring mk w sb n m t mb Z (xs ++ y :: zs)) : (la (sb, 4) xs).1 ≠ (na (sb, 4) zs).1 ∨ (la (sb, 4) xs).2 + 12 ≠ (na (sb, 4) zs).2 + 11 := by
  have key : ∀ (s : Nat) (xs : List (Nd α)), (la (s, 4) xs).2 = 4 ∨ (la (s, 4) xs).2 = 0 := by
    intro s xs
    rcases List.eq_nil_or_concat xs with rfl | ⟨xs', x, rfl⟩
    · exact .inl rfl
    · rw [List.concat_eq_append, la_append]; exact .inr rfl
  have key2 : (na (sb, 4) zs).2 = 4 ∨ (na (sb, 4) zs).2 = 0 := by
    cases zs
    · exact .inl rfl
    · exact .inr rfl
  right
  rcases key sb xs with h1 | h1 <;> rcases key2 with h2 | h2 <;> omega
theorem Ring.twin {W : World} (h : Ring mk W sb n m t mb Z ns) (ht : Twin w W) : Ring mk w sb n m t mb Z ns := h.keep (by rw [ht.heap]) (fun _ _ => by rw [ht.heap])
theorem Ring.total (h : Ring mk w sb n m t mb Z ns) (t' : Nat) : Ring mk (w.setCell ⟨sb, 2, none⟩ (.int .i64 (t' : Int))) sb n m t' mb Z ns :=
  ⟨h.st.set 2 _, h.seg.other (fun y hy e => (List.nodup_cons.1 h.nd).1 (List.mem_map.2 ⟨y, hy, e⟩)) _, h.nd⟩
theorem Ring.blk_ne (h : Ring mk w sb n m t mb Z ns) (hm : MapK P kt w mb ns) : sb ≠ mb ∧ ∀ k ∈ blks ns, k ≠ mb := by
  refine ⟨hm.ne h.st, ?_⟩
  intro k hk
  obtain ⟨y, hy, rfl⟩ := List.mem_map.1 hk
  obtain ⟨xs, zs, rfl⟩ := List.append_of_mem hy
  exact hm.ne h.seg.get
/-- what a budget is in memory -/
structure Full (mk : α → Iv) (Z : Iv) (P : Program) (kt : TypeId) (w : World) (b sb mb n m : Nat) (ns : List (Nd α)) : Prop where
  top : bk w b #[.pointer (some ⟨sb, 0, none⟩)]
  ring : Ring mk w sb n m (totK (its ns)) mb Z ns
  map : MapK P kt w mb ns
  ok : OkK n m (its ns)
  kl : ∀ y ∈ ns, y.2.1.length ≤ KL
  n1 : 1 ≤ n
  n2 : n ≤ 4096
  m1 : 1 ≤ m
  m2 : m ≤ 1073741824
theorem Full.nb (h : Full mk Z P kt w b sb mb n m ns) : ∀ k, ringX sb mb ns k → k ≠ b := by
  rintro k (rfl | rfl | hk) rfl
  · have := h.top.inj h.ring.st
    simp [stC] at this
  · exact h.map.ne h.top rfl
  · obtain ⟨y, hy, rfl⟩ := List.mem_map.1 hk
    obtain ⟨xs, zs, rfl⟩ := List.append_of_mem hy
    have := h.top.inj h.ring.seg.get
    simp [itC] at this
theorem Full.lt (h : Full mk Z P kt w b sb mb n m ns) : ∀ k, ownX b sb mb ns k → k < w.heap.size := by
  rintro k (rfl | rfl | rfl | hk)
  · exact h.top.lt
  · exact h.ring.st.lt
  · exact h.map.lt
  · obtain ⟨y, hy, rfl⟩ := List.mem_map.1 hk
    exact h.ring.seg.lt y hy
theorem Full.keep (h : Full mk Z P kt w b sb mb n m ns) (hk : ∀ k, ownX b sb mb ns k → w'.heap[k]? = w.heap[k]?) : Full mk Z P kt w' b sb mb n m ns :=
  ⟨h.top.keep (hk b (.inl rfl)), h.ring.keep (hk sb (.inr (.inl rfl))) (fun k hq => hk k (.inr (.inr (.inr hq)))), h.map.keep (hk mb (.inr (.inr (.inl rfl)))), h.ok, h.kl, h.n1, h.n2, h.m1, h.m2⟩
/-- where a key's item lies -/
theorem Full.split (h : Full mk Z P kt w b sb mb n m ns) {k : List UInt8} (hk : k ∈ keysK (its ns)) : ∃ xs y zs, ns = xs ++ y :: zs ∧ y.2.1 = k ∧ blkOf k ns = some y.1 ∧ dropK k (its ns) = its (xs ++ zs) ∧ findK k (its ns) = some y.2 ∧
    totK (its ns) = y.2.2.1 + totK (its (xs ++ zs)) ∧ (∀ z ∈ xs ++ zs, z.2.1 ≠ k) := by
  obtain ⟨a, z, c, e, hz, ha⟩ := splitK hk
  obtain ⟨xs, y, zs, rfl, rfl, rfl, rfl⟩ := its_split e
  have hnd := h.ok.nd
  rw [e] at hnd
  have hx : ∀ z ∈ xs, z.2.1 ≠ k := fun z hz' q => ha (by rw [its_keys]; exact List.mem_map.2 ⟨z, hz', q⟩)
  refine ⟨xs, y, zs, rfl, hz, blkOf_mid hz hx, ?_, ?_, ?_, ?_⟩
  · rw [e, dropK_mid hz hnd, its_append]
  · rw [e, findK_mid hz ha]
  · rw [e, its_append, totK_append, totK_append]
    simp only [totK]
    omega
  · intro v hv q
    have h1 := nodup_mid hz hnd
    rw [← its_append, its_keys] at h1
    exact h1 (List.mem_map.2 ⟨v, hv, q⟩)
theorem Full.miss {k : List UInt8} (hk : k ∉ keysK (its ns)) : blkOf k ns = none :=
  blkOf_none fun z hz q => hk (by rw [its_keys]; exact List.mem_map.2 ⟨z, hz, q⟩)
theorem Full.removed (h : Full mk Z P kt w b sb mb n m (xs ++ y :: zs)) (hr : Ring mk w' sb n m (totK (its (xs ++ zs))) mb Z (xs ++ zs)) (hm : MapK P kt w' mb (xs ++ zs)) (hd : Did (ringX sb mb (xs ++ y :: zs)) (ringX sb mb (xs ++ zs)) w w') :
    Full mk Z P kt w' b sb mb n m (xs ++ zs) ∧ Did (ownX b sb mb (xs ++ y :: zs)) (ownX b sb mb (xs ++ zs)) w w' := by
  refine ⟨⟨h.top.keep (hd.keep b h.top.lt (fun e => h.nb b e rfl)), hr, hm, h.ok.sub ?_, fun v hv => h.kl v ?_, h.n1, h.n2, h.m1, h.m2⟩, hd.os, hd.tape, hd.output, hd.size, fun k hk hx => hd.keep k hk (fun e => hx (.inr e)), ?_⟩
  · rw [its_append, its_append]
    exact List.Sublist.append_left (List.sublist_cons_self _ _) _
  · rcases List.mem_append.1 hv with q | q
    · exact List.mem_append_left _ q
    · exact List.mem_append_right _ (List.mem_cons_of_mem _ q)
  · rintro k (rfl | e)
    · exact .inl (.inl rfl)
    · exact .inl (.inr (ringX_mid e))
theorem MapK.same (h : MapK P kt w mb ns) {ns' : List (Nd α)} (h1 : ∀ k, blkOf k ns' = blkOf k ns) (h2 : ∀ k : List UInt8, ns'.any (fun y => y.2.1 == k) = ns.any (fun y => y.2.1 == k)) (h3 : ns'.length = ns.length) : MapK P kt w mb ns' := by
  obtain ⟨D, a1, a2, a3, a4⟩ := h
  exact ⟨D, by rw [h3]; exact a1, fun k => by rw [a2 k, h1 k], fun k => by rw [a3 k, h2 k], by rw [a4, h3]⟩
theorem MapK.moved (h : MapK P kt w mb (xs ++ y :: zs)) (hk : ∀ z ∈ xs ++ zs, z.2.1 ≠ y.2.1) : MapK P kt w mb (xs ++ zs ++ [y]) := by
  refine h.same (fun k => ?_) (fun k => ?_) (by simp)
  · by_cases e : y.2.1 = k
    · rw [blkOf_mid e (fun z hz => e ▸ hk z hz), blkOf_mid e (fun z hz => e ▸ hk z (List.mem_append_left _ hz))]
    · unfold blkOf
      rw [List.find?_append, List.find?_append, List.find?_append, List.find?_cons_of_neg (by rw [beq_iff_eq]; exact e), List.find?_cons_of_neg (by rw [beq_iff_eq]; exact e)]
      simp
  · rw [List.any_append, List.any_append, List.any_append, List.any_cons, List.any_cons, List.any_nil, Bool.or_false, Bool.or_assoc]
    congr 1
    exact Bool.or_comm _ _
theorem Full.moved (h : Full mk Z P kt w b sb mb n m (xs ++ y :: zs)) (hr : Ring mk w' sb n m (totK (its (xs ++ y :: zs))) mb Z (xs ++ zs ++ [y])) (hk : ∀ z ∈ xs ++ zs, z.2.1 ≠ y.2.1)
    (hd : Did (fun k => k = sb ∨ k ∈ blks (xs ++ y :: zs)) (fun k => k = sb ∨ k ∈ blks (xs ++ y :: zs)) w w') :
    Full mk Z P kt w' b sb mb n m (xs ++ zs ++ [y]) ∧ Did (ownX b sb mb (xs ++ y :: zs)) (ownX b sb mb (xs ++ zs ++ [y])) w w' := by
  have hp : (its (xs ++ zs ++ [y])).Perm (its (xs ++ y :: zs)) := by
    unfold its
    apply List.Perm.map
    rw [List.append_assoc]
    exact List.Perm.append_left xs (List.perm_append_singleton y zs)
  have ht : totK (its (xs ++ zs ++ [y])) = totK (its (xs ++ y :: zs)) := by
    rw [its_append, its_append, its_append, totK_append, totK_append, totK_append]
    show _ + (y.2.2.1 + 0) = _ + (y.2.2.1 + totK (its zs))
    omega
  have hne := h.ring.blk_ne h.map
  have hmb : w'.heap[mb]? = w.heap[mb]? := hd.keep mb h.map.lt (by
    rintro (e | e)
    · exact hne.1 e.symm
    · exact hne.2 mb e rfl)
  refine ⟨⟨h.top.keep (hd.keep b h.top.lt (fun e => h.nb b (e.elim .inl (fun q => .inr (.inr q))) rfl)), by rw [ht]; exact hr, (h.map.keep hmb).moved hk, ⟨?_, ?_, ?_⟩, fun v hv => h.kl v ?_, h.n1, h.n2, h.m1, h.m2⟩, hd.os, hd.tape, hd.output, hd.size, fun k hk hx => hd.keep k hk (fun e => hx (.inr (e.elim .inl (fun q => .inr (.inr q))))), ?_⟩
  · exact (show (keysK (its (xs ++ zs ++ [y]))).Perm (keysK (its (xs ++ y :: zs))) from hp.map _).nodup_iff.2 h.ok.nd
  · rw [hp.length_eq]; exact h.ok.len
  · rw [ht]; exact h.ok.tot
  · simp at hv ⊢
    rcases hv with q | q | q
    · exact .inl q
    · exact .inr (.inr q)
    · exact .inr (.inl q)
  · rintro k (rfl | e | e | e)
    · exact .inl (.inl rfl)
    · exact .inl (.inr (.inl e))
    · exact .inl (.inr (.inr (.inl e)))
    · refine .inl (.inr (.inr (.inr ?_)))
      unfold blks at e ⊢
      simp at e ⊢
      rcases e with q | q | q
      · exact .inl q
      · exact .inr (.inr q)
      · exact .inr (.inl q)
theorem Full.added {w1 w2 w3 w4 : World} {ns1 rest : List (Nd α)} (hF : Full mk Z P kt w1 b sb mb n m ns1) (hs : ns1 = xs ++ rest) (hd2 : Did (ringX sb mb ns1) (ringX sb mb rest) w1 w2) (hb3 : Below w2.heap.size w2 w3)
    (hyb : w2.heap.size ≤ y.1) (hr4 : Ring mk w4 sb n m (totK (its (rest ++ [y]))) mb Z (rest ++ [y])) (hm4 : MapK P kt w4 mb (rest ++ [y])) (hd4 : Did (fun k => k = y.1 ∨ ringX sb mb rest k) (ringX sb mb (rest ++ [y])) w3 w4)
    (hok : OkK n m (its (rest ++ [y]))) (hl : y.2.1.length ≤ KL) : Full mk Z P kt w4 b sb mb n m (rest ++ [y]) ∧ Did (ownX b sb mb ns1) (ownX b sb mb (rest ++ [y])) w1 w4 := by
  have hsub : ∀ k, ringX sb mb rest k → ringX sb mb ns1 k := by
    intro k hk
    subst hs
    rcases hk with h | h | h
    · exact .inl h
    · exact .inr (.inl h)
    · exact .inr (.inr (by rw [blks_append]; exact List.mem_append_right _ h))
  have hkeep : ∀ k, k < w1.heap.size → ¬ ringX sb mb ns1 k → w4.heap[k]? = w1.heap[k]? := by
    intro k hk hx
    have h2 := hd2.size
    have h3 := hb3.size
    rw [hd4.keep k (by omega) (by rintro (e | e); omega; exact hx (hsub k e)), hb3.block k (by omega), hd2.keep k hk hx]
  refine ⟨⟨hF.top.keep (hkeep b hF.top.lt (fun e => hF.nb b e rfl)), hr4, hm4, hok, ?_, hF.n1, hF.n2, hF.m1, hF.m2⟩, hd4.os.trans (hb3.os.trans hd2.os), hd4.tape.trans (hb3.tape.trans hd2.tape), hd4.output.trans (hb3.output.trans hd2.output), Nat.le_trans hd2.size (Nat.le_trans hb3.size hd4.size), fun k hk hx => hkeep k hk (fun e => hx (.inr e)), ?_⟩
  · intro v hv
    rcases List.mem_append.1 hv with q | q
    · exact hF.kl v (by rw [hs]; exact List.mem_append_right _ q)
    · have : v = y := by simpa using q
      rw [this]; exact hl
  · rintro k (rfl | e | e | e)
    · exact .inl (.inl rfl)
    · exact .inl (.inr (.inl e))
    · exact .inl (.inr (.inr (.inl e)))
    · rw [blks_append] at e
      rcases List.mem_append.1 e with q | q
      · exact .inl (.inr (hsub k (.inr (.inr q))))
      · have : k = y.1 := by simpa [blks] using q
        have h2 := hd2.size
        right; omega
def valK (z : α) : Option (It α) → α
  | some y => y.2.2
  | none => z
/-- a budget, whatever its blocks: X are they -/
def Bud (mk : α → Iv) (Z : Iv) (P : Program) (kt : TypeId) (w : World) (b : Nat) (X : Nat → Prop) (n m : Nat) (l : List (It α)) : Prop :=
  ∃ sb mb ns, its ns = l ∧ X = ownX b sb mb ns ∧ Full mk Z P kt w b sb mb n m ns
variable {X : Nat → Prop} {l : List (It α)}
theorem Bud.lt (h : Bud mk Z P kt w b X n m l) : ∀ k, X k → k < w.heap.size := by
  obtain ⟨sb, mb, ns, rfl, rfl, h⟩ := h
  exact h.lt
theorem Bud.keep (h : Bud mk Z P kt w b X n m l) (hk : ∀ k, X k → w'.heap[k]? = w.heap[k]?) : Bud mk Z P kt w' b X n m l := by
  obtain ⟨sb, mb, ns, rfl, rfl, h⟩ := h
  exact ⟨sb, mb, ns, rfl, rfl, h.keep hk⟩
theorem Bud.bel (h : Bud mk Z P kt w b X n m l) (hb : Below w.heap.size w w') : Bud mk Z P kt w' b X n m l := h.keep fun k hk => hb.block k (h.lt k hk)
theorem Bud.did {X0 X1 : Nat → Prop} (h : Bud mk Z P kt w b X n m l) (hd : Did X0 X1 w w') (hx : ∀ k, X k → ¬ X0 k) : Bud mk Z P kt w' b X n m l := h.keep fun k hk => hd.keep k (h.lt k hk) (hx k hk)
theorem Bud.ok (h : Bud mk Z P kt w b X n m l) : OkK n m l := by
  obtain ⟨sb, mb, ns, rfl, rfl, h⟩ := h
  exact h.ok
theorem Bud.bounds (h : Bud mk Z P kt w b X n m l) : 1 ≤ n ∧ n ≤ 4096 ∧ 1 ≤ m ∧ m ≤ 1073741824 := by
  obtain ⟨sb, mb, ns, rfl, rfl, h⟩ := h
  exact ⟨h.n1, h.n2, h.m1, h.m2⟩
theorem Bud.kl (h : Bud mk Z P kt w b X n m l) : ∀ y ∈ l, y.1.length ≤ KL := by
  obtain ⟨sb, mb, ns, rfl, rfl, h⟩ := h
  intro y hy
  obtain ⟨z, hz, rfl⟩ := List.mem_map.1 hy
  exact h.kl z hz
end
end Go.Proofs.YtopgeclecpaecaaGreatDoor
