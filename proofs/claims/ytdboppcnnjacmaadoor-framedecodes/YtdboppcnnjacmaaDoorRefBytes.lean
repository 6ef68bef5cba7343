/- The document's answer's Bytes of a frame that may be. -/
import Derived.Test.YtdboppcnnjacmaaDoorFrameEncode
import Derived.Test.YtdboppcnnjacmaaDoorRefSum
import Derived.Deep.RegionHeld3
namespace Go.Proofs.YtdboppcnnjacmaaDoor
open Go.RowKit Go.Lib

theorem wrap8_nat (n : Nat) (h : n < 256) : IntKind.u8.wrap (n : Int) = (n : Int) := by
  simp [IntKind.wrap, IntKind.bits, IntKind.signed]; omega
theorem OwnB.alloc {w : World} {base : Nat} {v : Value} {l : List Nat} (h : OwnB w base v l) (o : Obj) : OwnB (w.alloc o) base v l := h.below ((Below.refl _ _).alloc (Nat.le_refl _) _)
theorem OwnB.drew {w : World} {base : Nat} {v : Value} {l : List Nat} (h : OwnB w base v l) : OwnB w.drew base v l := h

/-- Bytes are put behind bytes of one's own, at a step of a region that draws. -/
theorem step_app {ops : Array Oper} {o : Oper} {a : Act} {K : Act → World → Prop} {Q : Exit → Act → World → Prop} {E : Prop} {w : World} (hgd : o.guard = none) (s x : Operand)
    (ho : o.op = .call { callee := .builtin .append, args := #[s, x], argTypes := #[55, 55] }) (base : Nat) (v : Value) (l : List Nat) (hs : a.eval s = v) (hown : OwnB w base v l) (g c : Nat) (m : List Nat)
    (hx : a.eval x = .slice (some ⟨g, 0, none⟩) m.length c) (hnews : ∀ j u, (by8 m)[j]? = some u → w.cell? ((⟨g, 0, none⟩ : Addr).add j) = some u) (hlen : l.length + m.length ≤ 2000) (hbase : base ≤ w.heap.size)
    (h : ∀ v' w', OwnB w' base v' (l ++ m) → Below base w w' → w.heap.size ≤ w'.heap.size → K (a.put o.dst v') w') : if Region.wanted o (yielded ops a.tmps) = true then Oper.wp Tryd.prog o a w K Q else E := by
  have hw : Region.wanted o (yielded ops a.tmps) = true := by simp [Region.wanted, hgd]
  rw [if_pos hw]
  obtain ⟨i1, hj, hy0, hy1, hy2⟩ := info_parts Tryd.infoByte
  refine wp_append_own w s x 55 ho base 5 i1 (.int .u8 0) 1 1 Tryd.underlying55 hj hy0 hy1 hy2 rfl (by decide) v l.length (by8 l) hs hown ⟨g, 0, none⟩ m.length c (by8 m) hx (by rw [by8_len]; omega) hnews (by8_one m) (by unfold maxLen; omega) (by omega) hbase ?_
  intro v' w' h1 h2 _
  have hB : Below base w w' := (Below.refl base w).grown h2 hbase (fun z hz => (hown.lt z hz).1)
  exact h v' w' (own_append h1) hB h2.size
theorem step_app_str {ops : Array Oper} {o : Oper} {a : Act} {K : Act → World → Prop} {Q : Exit → Act → World → Prop} {E : Prop} {w : World} (hgd : o.guard = none) (s x : Operand)
    (ho : o.op = .call { callee := .builtin .append, args := #[s, x], argTypes := #[55, 9] }) (base : Nat) (v : Value) (l : List Nat) (hs : a.eval s = v) (hown : OwnB w base v l) (S : ByteArray)
    (hx : a.eval x = .string S) (hlen : l.length + S.size ≤ 2000) (hbase : base ≤ w.heap.size)
    (h : ∀ v' w', OwnB w' base v' (l ++ natsOf S) → Below base w w' → w.heap.size ≤ w'.heap.size → K (a.put o.dst v') w') : if Region.wanted o (yielded ops a.tmps) = true then Oper.wp Tryd.prog o a w K Q else E := by
  have hw : Region.wanted o (yielded ops a.tmps) = true := by simp [Region.wanted, hgd]
  rw [if_pos hw]
  obtain ⟨i1, hj, hy0, hy1, hy2⟩ := info_parts Tryd.infoByte
  obtain ⟨v', w', hr, h1, h2, _⟩ := run_append_own_string (P := Tryd.prog) w base 55 9 o.type 5 i1 Tryd.underlying55 Tryd.underlying9 hj hy0 hy1 hy2 v l.length (by8 l) hown S (by unfold maxLen; omega) (by omega) hbase
  have hB : Below base w w' := (Below.refl base w).grown h2 hbase (fun z hz => (hown.lt z hz).1)
  unfold Oper.wp execOp
  simp only [ho, resolve, invoke, builtin, Sem.run_bind, Sem.run_pure, Result.andThen_ok, List.map_toArray, List.map_cons, List.map_nil, hs, hx, hr]
  exact h v' w' (own_append (by rw [natsOf_len, by8_nats]; exact h1)) hB h2.size

set_option maxRecDepth 100000 in
set_option maxHeartbeats 4000000 in
theorem refBytes_msg (node slot members link seq : Nat) (S : ByteArray) (w : World) (h1 : node < 16) (h2 : slot < 32) (h3 : members < 65536) (h4 : link < 8) (h5 : seq < 256) (h6 : S.size ≤ 40) :
    Calls Tryd.prog 34 #[.agg #[.int .i64 node, .int .i64 slot, .int .i64 members, .int .i64 link, .int .i64 seq, .string S]] w fun e w' => ∃ v, e = .returned (.tuple #[v, .int .i64 0]) ∧ OwnB w' w.heap.size v (summed (bodyB node slot members (link + 1) seq (natsOf S))) ∧ Below w.heap.size w w' := by
  have k1 : (node : Int) ≤ 15 := by omega
  have k2 : (slot : Int) ≤ 31 := by omega
  have k3 : (members : Int) ≤ 65535 := by omega
  have k4 : (link : Int) ≤ 7 := by omega
  have k5 : (seq : Int) ≤ 255 := by omega
  have k6 : (S.size : Int) ≤ 40 := by omega
  have k7 : ((link : Int) == -1) = false := by simp
  have hV : Below w.heap.size w (w.alloc (.cells #[.int .i64 node, .int .i64 slot, .int .i64 members, .int .i64 link, .int .i64 seq, .string S] 69)) := (Below.refl _ _).alloc (Nat.le_refl _) _
  have hC := box6 node slot members link seq S w 69
  go_enter Tryd.func34, Tryd.ntmps34
  go_wp2
  have hz1 : (w.alloc (.cells #[.int .i64 node, .int .i64 slot, .int .i64 members, .int .i64 link, .int .i64 seq, .string S] 69)).heap.size = w.heap.size + 1 := by simp
  have HO : Hid (OwnB ((w.alloc (.cells #[.int .i64 node, .int .i64 slot, .int .i64 members, .int .i64 link, .int .i64 seq, .string S] 69)).alloc (.cells #[.int .u8 node, .int .u8 slot, .int .u8 ((members : Int) / 256), .int .u8 ((members : Int) % 256), .int .u8 ((link : Int) + 1)] 5)) (w.heap.size + 1) (.slice (some ⟨w.heap.size + 1, 0, none⟩) 5 5) [node, slot, members / 256, members % 256, link + 1]) := by
    have := own_new (w.alloc (.cells #[.int .i64 node, .int .i64 slot, .int .i64 members, .int .i64 link, .int .i64 seq, .string S] 69)) [node, slot, members / 256, members % 256, link + 1] #[.int .u8 node, .int .u8 slot, .int .u8 ((members : Int) / 256), .int .u8 ((members : Int) % 256), .int .u8 ((link : Int) + 1)] (by simp [by8]) (by simp) (w.heap.size + 1) (by simp)
    rw [hz1] at this
    exact this
  have hA : Below (w.alloc (.cells #[.int .i64 node, .int .i64 slot, .int .i64 members, .int .i64 link, .int .i64 seq, .string S] 69)).heap.size (w.alloc (.cells #[.int .i64 node, .int .i64 slot, .int .i64 members, .int .i64 link, .int .i64 seq, .string S] 69)) ((w.alloc (.cells #[.int .i64 node, .int .i64 slot, .int .i64 members, .int .i64 link, .int .i64 seq, .string S] 69)).alloc (.cells #[.int .u8 node, .int .u8 slot, .int .u8 ((members : Int) / 256), .int .u8 ((members : Int) % 256), .int .u8 ((link : Int) + 1)] 5)) := (Below.refl _ _).alloc (Nat.le_refl _) _
  have x4 := cell_keep hC.2.2.2.2.1 hA
  have x5 := cell_keep hC.2.2.2.2.2 hA
  replace hV := below_on hV hA
  have hUz : w.heap.size + 2 = ((w.alloc (.cells #[.int .i64 node, .int .i64 slot, .int .i64 members, .int .i64 link, .int .i64 seq, .string S] 69)).alloc (.cells #[.int .u8 node, .int .u8 slot, .int .u8 ((members : Int) / 256), .int .u8 ((members : Int) % 256), .int .u8 ((link : Int) + 1)] 5)).heap.size := by simp
  clear hA hC hz1
  generalize (w.alloc (.cells #[.int .i64 node, .int .i64 slot, .int .i64 members, .int .i64 link, .int .i64 seq, .string S] 69)).alloc (.cells #[.int .u8 node, .int .u8 slot, .int .u8 ((members : Int) / 256), .int .u8 ((members : Int) % 256), .int .u8 ((link : Int) + 1)] 5) = U at HO x4 x5 hV hUz ⊢
  have HC : Hid ((#[.int .u8 (IntKind.u8.wrap (seq : Int)), .int .u8 (IntKind.u8.wrap (S.size : Int))] : Array Value).toList = by8 [seq, S.size]) := by
    have w1 := wrap8_nat seq h5
    have w2 := wrap8_nat S.size (by omega)
    simp [Hid, by8, w1, w2]
  have hlU : w.heap.size < U.heap.size := by omega
  go_region_held3 (fun u => u.cell? ⟨w.heap.size, 4, none⟩ = some (.int .i64 seq) ∧ u.cell? ⟨w.heap.size, 5, none⟩ = some (.string S)) (go_keep) (first
    | (refine step_app_str (by rfl) _ _ (by rfl) (w.heap.size + 1) v3 _ (by rfl) HO3.out S (by rfl) (by simp; omega) (by omega) ?_; intro v4 w4 ho4 hb4 hz4; have HO4 : Hid (OwnB w4 (w.heap.size + 1) v4 ([node, slot, members / 256, members % 256, link + 1] ++ [seq, S.size] ++ natsOf S)) := ho4; have y4 : w4.cell? ⟨w.heap.size, 4, none⟩ = some (.int .i64 seq) := (hb4.cell (p := ⟨w.heap.size, 4, none⟩) (Nat.lt_succ_self _)).trans y4; have y5 : w4.cell? ⟨w.heap.size, 5, none⟩ = some (.string S) := (hb4.cell (p := ⟨w.heap.size, 5, none⟩) (Nat.lt_succ_self _)).trans y5; clear ho4)
    | (refine step_app (by rfl) _ _ (by rfl) (w.heap.size + 1) (.slice (some ⟨w.heap.size + 1, 0, none⟩) 5 5) _ (by rfl) (by first | exact HO.out.alloc _ | exact (HO.out.alloc _).drew) U.heap.size 2 [seq, S.size] (by rfl) (by first | exact cells_new U _ _ HC.out | exact fun j u h => cells_new U [seq, S.size] _ HC.out j u h) (by simp) (by simp; omega) ?_; intro v3 w3 ho3 hb3 hz3; have HO3 : Hid (OwnB w3 (w.heap.size + 1) v3 ([node, slot, members / 256, members % 256, link + 1] ++ [seq, S.size])) := ho3; have y4 : w3.cell? ⟨w.heap.size, 4, none⟩ = some (.int .i64 seq) := (hb3.cell (p := ⟨w.heap.size, 4, none⟩) (Nat.lt_succ_self _)).trans (show (U.alloc _).cell? _ = _ from (World.cell?_alloc_lt _ _ _ hlU).trans x4); have y5 : w3.cell? ⟨w.heap.size, 5, none⟩ = some (.string S) := (hb3.cell (p := ⟨w.heap.size, 5, none⟩) (Nat.lt_succ_self _)).trans (show (U.alloc _).cell? _ = _ from (World.cell?_alloc_lt _ _ _ hlU).trans x5); have hz3' : U.heap.size ≤ w3.heap.size := Nat.le_trans (by simp) hz3; clear ho3))
  have hW4 : Below w.heap.size w w4 := hV.trans ((((Below.refl _ U).alloc hV.size _).drew.trans (hb3.mono (Nat.le_succ _))).trans (hb4.mono (Nat.le_succ _)))
  have hw4z : w.heap.size + 1 ≤ w4.heap.size := by omega
  have HL : Hid ([node, slot, members / 256, members % 256, link + 1] ++ [seq, S.size] ++ natsOf S = bodyB node slot members (link + 1) seq (natsOf S)) := by simp [Hid, bodyB, natsOf_len]
  have hlt : ∀ c ∈ [node, slot, members / 256, members % 256, link + 1] ++ [seq, S.size] ++ natsOf S, c < 256 := by
    intro c hc
    simp at hc
    rcases hc with h | h | h | h | h | h | h | h
    all_goals first | omega | exact natsOf_lt S c h
  have hlen : ([node, slot, members / 256, members % 256, link + 1] ++ [seq, S.size] ++ natsOf S).length ≤ 50 := by simp; rw [natsOf_len]; omega
  have hlen1 : 1 ≤ ([node, slot, members / 256, members % 256, link + 1] ++ [seq, S.size] ++ natsOf S).length := by simp
  generalize [node, slot, members / 256, members % 256, link + 1] ++ [seq, S.size] ++ natsOf S = L at *
  obtain ⟨g, cap, rfl, hg, hrow⟩ := HO4.out.row hlen1
  have hcr : crcOf 65535 L < 65536 := crc_lt _ _ (by decide) hlt
  have HS : Hid (∀ x, x = L.length → Calls Tryd.prog 39 #[.slice (some ⟨g, 0, none⟩) x cap] w4 fun e w' => e = .returned (.int .i64 (crcOf 65535 L : Nat)) ∧ w' = w4) := fun x hx => hx ▸ refSum_any _ cap L _ hrow hlt (by omega)
  obtain ⟨N, hN⟩ : ∃ N, L.length = N := ⟨_, rfl⟩
  have HN : Hid (L.length = N) := hN
  have HF : Hid (summed L = L ++ [crcOf 65535 L / 256, crcOf 65535 L % 256]) := rfl
  have HO6 := HO4.out
  generalize crcOf 65535 L = q at hcr HS HF
  have HO7 : Hid (OwnB (w4.alloc (.cells #[.int .u8 ((q : Int) / 256), .int .u8 ((q : Int) % 256)] 5)) (w.heap.size + 1) (.slice (some ⟨g, 0, none⟩) N cap) L) := hN ▸ HO6.alloc _
  have HC2 : Hid ((#[.int .u8 ((q : Int) / 256), .int .u8 ((q : Int) % 256)] : Array Value).toList = by8 [q / 256, q % 256]) := by simp [Hid, by8]
  rw [hN]
  clear HO4 HO6 hN hrow
  have k8 : (q : Int) < 65536 := by omega
  go_wp2_with fail
  refine (HS.out _ HN.out.symm).mono ?_
  rintro e w6 ⟨rfl, rfl⟩
  go_wp2_with fail
  refine (HS.out _ HN.out.symm).mono ?_
  rintro e w7 ⟨rfl, rfl⟩
  go_wp2_with (at_builtin; refine wp_app rfl _ _ rfl (w.heap.size + 1) _ L rfl HO7.out w7.heap.size 2 [q / 256, q % 256] rfl (cells_new w7 _ _ HC2.out) (by simp; omega) (by simp; omega) ?_; intro v8 w8 ho8 hb8 hz8)
  go_ret2
  refine ⟨_, rfl, ?_, hW4.trans (((Below.refl _ w7).alloc hW4.size _).trans (hb8.mono (Nat.le_succ _)))⟩
  rw [← HL.out, HF.out]
  exact OwnB.mono ho8 (by omega)

set_option maxRecDepth 100000 in
set_option maxHeartbeats 4000000 in
theorem refBytes_none (node slot members : Nat) (w : World) (h1 : node < 16) (h2 : slot < 32) (h3 : members < 65536) :
    Calls Tryd.prog 34 #[.agg #[.int .i64 node, .int .i64 slot, .int .i64 members, .int .i64 (-1), .int .i64 0, .string ByteArray.empty]] w fun e w' => ∃ v, e = .returned (.tuple #[v, .int .i64 0]) ∧ OwnB w' w.heap.size v (summed (bodyB node slot members 0 0 [])) ∧ Below w.heap.size w w' := by
  have k1 : (node : Int) ≤ 15 := by omega
  have k2 : (slot : Int) ≤ 31 := by omega
  have k3 : (members : Int) ≤ 65535 := by omega
  have k9 : ByteArray.empty.toList.isEmpty = true := by rw [empty_size]; rfl
  have hV : Below w.heap.size w (w.alloc (.cells #[.int .i64 node, .int .i64 slot, .int .i64 members, .int .i64 (-1), .int .i64 0, .string ByteArray.empty] 69)) := (Below.refl _ _).alloc (Nat.le_refl _) _
  have hC := box6 node slot members (-1) 0 ByteArray.empty w 69
  have hz1 : (w.alloc (.cells #[.int .i64 node, .int .i64 slot, .int .i64 members, .int .i64 (-1), .int .i64 0, .string ByteArray.empty] 69)).heap.size = w.heap.size + 1 := by simp
  have HO : Hid (OwnB ((w.alloc (.cells #[.int .i64 node, .int .i64 slot, .int .i64 members, .int .i64 (-1), .int .i64 0, .string ByteArray.empty] 69)).alloc (.cells #[.int .u8 node, .int .u8 slot, .int .u8 ((members : Int) / 256), .int .u8 ((members : Int) % 256), .int .u8 0] 5)) (w.heap.size + 1) (.slice (some ⟨w.heap.size + 1, 0, none⟩) 5 5) [node, slot, members / 256, members % 256, 0]) := by
    have := own_new (w.alloc (.cells #[.int .i64 node, .int .i64 slot, .int .i64 members, .int .i64 (-1), .int .i64 0, .string ByteArray.empty] 69)) [node, slot, members / 256, members % 256, 0] #[.int .u8 node, .int .u8 slot, .int .u8 ((members : Int) / 256), .int .u8 ((members : Int) % 256), .int .u8 0] (by simp [by8]) (by simp) (w.heap.size + 1) (by simp)
    rw [hz1] at this
    exact this
  have hA : Below (w.alloc (.cells #[.int .i64 node, .int .i64 slot, .int .i64 members, .int .i64 (-1), .int .i64 0, .string ByteArray.empty] 69)).heap.size (w.alloc (.cells #[.int .i64 node, .int .i64 slot, .int .i64 members, .int .i64 (-1), .int .i64 0, .string ByteArray.empty] 69)) ((w.alloc (.cells #[.int .i64 node, .int .i64 slot, .int .i64 members, .int .i64 (-1), .int .i64 0, .string ByteArray.empty] 69)).alloc (.cells #[.int .u8 node, .int .u8 slot, .int .u8 ((members : Int) / 256), .int .u8 ((members : Int) % 256), .int .u8 0] 5)) := (Below.refl _ _).alloc (Nat.le_refl _) _
  have hW4 := below_on hV hA
  have hUz : w.heap.size + 2 = ((w.alloc (.cells #[.int .i64 node, .int .i64 slot, .int .i64 members, .int .i64 (-1), .int .i64 0, .string ByteArray.empty] 69)).alloc (.cells #[.int .u8 node, .int .u8 slot, .int .u8 ((members : Int) / 256), .int .u8 ((members : Int) % 256), .int .u8 0] 5)).heap.size := by simp
  clear hA hC hz1
  go_enter Tryd.func34, Tryd.ntmps34
  go_wp2_with (first | (go_at_call 39; apply Hid.out) | go_in)
  unfold Hid
  clear hV
  generalize (w.alloc (.cells #[.int .i64 node, .int .i64 slot, .int .i64 members, .int .i64 (-1), .int .i64 0, .string ByteArray.empty] 69)).alloc (.cells #[.int .u8 node, .int .u8 slot, .int .u8 ((members : Int) / 256), .int .u8 ((members : Int) % 256), .int .u8 0] 5) = U at HO hW4 hUz ⊢
  generalize Value.slice (some ⟨w.heap.size + 1, 0, none⟩) 5 5 = v at HO ⊢
  have HL : Hid ([node, slot, members / 256, members % 256, 0] = bodyB node slot members 0 0 []) := by simp [Hid, bodyB]
  have hlt : ∀ c ∈ [node, slot, members / 256, members % 256, 0], c < 256 := by
    intro c hc
    simp at hc
    omega
  have hlen : ([node, slot, members / 256, members % 256, 0]).length ≤ 50 := by simp
  have hlen1 : 1 ≤ ([node, slot, members / 256, members % 256, 0]).length := by simp
  generalize [node, slot, members / 256, members % 256, 0] = L at *
  obtain ⟨g, cap, rfl, hg, hrow⟩ := HO.out.row hlen1
  have hcr : crcOf 65535 L < 65536 := crc_lt _ _ (by decide) hlt
  have HS : Hid (∀ x, x = L.length → Calls Tryd.prog 39 #[.slice (some ⟨g, 0, none⟩) x cap] U fun e w' => e = .returned (.int .i64 (crcOf 65535 L : Nat)) ∧ w' = U) := fun x hx => hx ▸ refSum_any _ cap L _ hrow hlt (by omega)
  obtain ⟨N, hN⟩ : ∃ N, L.length = N := ⟨_, rfl⟩
  have HN : Hid (L.length = N) := hN
  have HF : Hid (summed L = L ++ [crcOf 65535 L / 256, crcOf 65535 L % 256]) := rfl
  have HO6 := HO.out
  generalize crcOf 65535 L = q at hcr HS HF
  have HO7 : Hid (OwnB (U.alloc (.cells #[.int .u8 ((q : Int) / 256), .int .u8 ((q : Int) % 256)] 5)) (w.heap.size + 1) (.slice (some ⟨g, 0, none⟩) N cap) L) := hN ▸ HO6.alloc _
  have HC2 : Hid ((#[.int .u8 ((q : Int) / 256), .int .u8 ((q : Int) % 256)] : Array Value).toList = by8 [q / 256, q % 256]) := by simp [Hid, by8]
  rw [hN]
  clear HO HO6 hN hrow
  have k8 : (q : Int) < 65536 := by omega
  refine (HS.out _ HN.out.symm).mono ?_
  rintro e w6 ⟨rfl, rfl⟩
  go_wp2_with fail
  refine (HS.out _ HN.out.symm).mono ?_
  rintro e w7 ⟨rfl, rfl⟩
  go_wp2_with (at_builtin; refine wp_app rfl _ _ rfl (w.heap.size + 1) _ L rfl HO7.out w7.heap.size 2 [q / 256, q % 256] rfl (cells_new w7 _ _ HC2.out) (by simp; omega) (by simp; omega) ?_; intro v8 w8 ho8 hb8 hz8)
  go_ret2
  refine ⟨_, rfl, ?_, hW4.trans (((Below.refl _ w7).alloc hW4.size _).trans (hb8.mono (Nat.le_succ _)))⟩
  rw [← HL.out, HF.out]
  exact OwnB.mono ho8 (by omega)
end Go.Proofs.YtdboppcnnjacmaaDoor
