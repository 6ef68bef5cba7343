/- Rows of bytes of one's own; the program's two: a number's two bytes behind them. -/
import Derived.Test.YtdboppcnnjacmaaDoorFrameSum
import Derived.Test.YtdboppcnnjacmaaDoorNumBytes
import Derived.Maps.AppendAt
import Derived.Lib.AppendStr
namespace Go.Proofs.YtdboppcnnjacmaaDoor
open Go.RowKit Go.Lib

theorem cell_lt {w : World} {a : Addr} {v : Value} (h : w.cell? a = some v) : a.block < w.heap.size := by
  rcases Nat.lt_or_ge a.block w.heap.size with g | g
  · exact g
  · simp [World.cell?, Array.getElem?_eq_none g] at h
theorem cell_keep {w w' : World} {a : Addr} {v : Value} (h : w.cell? a = some v) (hb : Below w.heap.size w w') : w'.cell? a = some v := (hb.cell (cell_lt h)).trans h
theorem cell_kept {w w' : World} {base : Nat} {a : Addr} {v : Value} (h : w.cell? a = some v) (hb : Below base w w') (hl : a.block < base) : w'.cell? a = some v := (hb.cell hl).trans h
theorem below_on {V u u' : World} (hW : Below V.heap.size V u) (h : Below u.heap.size u u') : Below V.heap.size V u' := hW.trans (h.mono hW.size)
/-- Bytes as cells. -/
def by8 (l : List Nat) : List Value := l.map fun n => Value.int .u8 (n : Nat)
theorem by8_append (l m : List Nat) : by8 (l ++ m) = by8 l ++ by8 m := List.map_append
theorem by8_len (l : List Nat) : (by8 l).length = l.length := List.length_map _
theorem by8_one (l : List Nat) : ∀ u ∈ by8 l, u.oneCell' = true := fun u hu => by
  simp [by8] at hu; obtain ⟨a, _, rfl⟩ := hu; rfl
/-- A text's bytes. -/
def natsOf (S : ByteArray) : List Nat := S.data.toList.map UInt8.toNat
theorem natsOf_len (S : ByteArray) : (natsOf S).length = S.size := by simp [natsOf]
theorem natsOf_lt (S : ByteArray) : ∀ c ∈ natsOf S, c < 256 := fun c hc => by
  simp [natsOf] at hc; obtain ⟨a, _, rfl⟩ := hc; exact a.toNat_lt
theorem by8_nats (S : ByteArray) : by8 (natsOf S) = strCells S := by simp [by8, natsOf, strCells]
/-- A row of bytes of one's own. -/
def OwnB (w : World) (base : Nat) (v : Value) (l : List Nat) : Prop := w.ownsRow base 5 1 v l.length (by8 l)
theorem OwnB.below {w w' : World} {base : Nat} {v : Value} {l : List Nat} (h : OwnB w base v l) (hb : Below w.heap.size w w') : OwnB w' base v l := owns_below h hb
theorem OwnB.mono {w : World} {base base' : Nat} {v : Value} {l : List Nat} (h : OwnB w base v l) (hb : base' ≤ base) : OwnB w base' v l := owns_mono h hb
theorem OwnB.row {w : World} {base : Nat} {v : Value} {l : List Nat} (h : OwnB w base v l) (hn : 1 ≤ l.length) : ∃ g cap, v = .slice (some ⟨g, 0, none⟩) l.length cap ∧ base ≤ g ∧ ByteRow w (some ⟨g, 0, none⟩) l := by
  obtain ⟨g, cap, hv, hg, hc⟩ := owns_some h hn
  have hcell : ∀ j (h : j < l.length), w.cell? ⟨g, 0 + j, none⟩ = some (.int .u8 (l[j] : Nat)) := fun j hj => by
    have := hc j (.int .u8 (l[j] : Nat)) (by simp [by8, hj])
    rwa [add_plain] at this
  exact ⟨g, cap, hv, hg, fun _ => ⟨g, 0, rfl, cell_lt (hcell 0 (by omega)), hcell⟩⟩
theorem OwnB.cap_le {w : World} {base n g cap : Nat} {l : List Nat} (h : OwnB w base (.slice (some ⟨g, 0, none⟩) n cap) l) : l.length ≤ cap := by
  rcases h.2 with ⟨h1, _⟩ | ⟨g', cap', cur, hv, _, _, h3, _⟩
  · cases h1
  · cases hv; exact h3
theorem ByteRow.below {w w' : World} {a : Option Addr} {l : List Nat} (h : ByteRow w a l) (hb : Below w.heap.size w w') : ByteRow w' a l := fun hn => by
  obtain ⟨b, off, ha, hbl, hc⟩ := h hn
  exact ⟨b, off, ha, Nat.lt_of_lt_of_le hbl hb.size, fun j hj => (hb.cell hbl).trans (hc j hj)⟩
/-- A row that has just been laid. -/
theorem own_new (w : World) (l : List Nat) (cur : Array Value) (hc : cur.toList = by8 l) (hm : l.length ≤ 1000) (base : Nat) (hb : base ≤ w.heap.size) : OwnB (w.alloc (.cells cur 5)) base (.slice (some ⟨w.heap.size, 0, none⟩) l.length l.length) l := by
  have h := owns_row w cur 5 l.length (by rw [← Array.length_toList, hc, by8_len]) (by unfold maxLen; omega) base hb
  rw [hc] at h
  exact h
theorem cells_new (w : World) (l : List Nat) (cur : Array Value) (hc : cur.toList = by8 l) : ∀ j u, (by8 l)[j]? = some u → (w.alloc (.cells cur 5)).cell? ((⟨w.heap.size, 0, none⟩ : Addr).add j) = some u := by
  rw [← hc]; exact row_cells w cur 5
theorem own_append {w : World} {base : Nat} {v : Value} {l m : List Nat} (h : w.ownsRow base 5 1 v (l.length + m.length) (by8 l ++ by8 m)) : OwnB w base v (l ++ m) := by
  unfold OwnB; rw [by8_append, List.length_append]; exact h

/-- Bytes are put behind bytes of one's own. -/
theorem wp_app {ops : Array Oper} {rest : List Oper} {o : Oper} {a : Act} {Q : Exit → Act → World → Prop} {w : World} (hgd : o.guard = none) (s x : Operand)
    (ho : o.op = .call { callee := .builtin .append, args := #[s, x], argTypes := #[55, 55] }) (base : Nat) (v : Value) (l : List Nat) (hs : a.eval s = v) (hown : OwnB w base v l) (g c : Nat) (m : List Nat)
    (hx : a.eval x = .slice (some ⟨g, 0, none⟩) m.length c) (hnews : ∀ j u, (by8 m)[j]? = some u → w.cell? ((⟨g, 0, none⟩ : Addr).add j) = some u) (hlen : l.length + m.length ≤ 2000) (hbase : base ≤ w.heap.size)
    (h : ∀ v' w', OwnB w' base v' (l ++ m) → Below base w w' → w.heap.size ≤ w'.heap.size → wpList Tryd.prog ops Q rest (a.put o.dst v') w') : wpList Tryd.prog ops Q (o :: rest) a w := by
  obtain ⟨i1, hj, hy0, hy1, hy2⟩ := info_parts Tryd.infoByte
  refine wpList_append_own w hgd s x 55 ho base 5 i1 (.int .u8 0) 1 1 Tryd.underlying55 hj hy0 hy1 hy2 rfl (by decide) v l.length (by8 l) hs hown ⟨g, 0, none⟩ m.length c (by8 m) hx (by rw [by8_len]; omega) hnews (by8_one m) (by unfold maxLen; omega) (by omega) hbase ?_
  intro v' w' h1 h2 _
  have hB : Below base w w' := (Below.refl base w).grown h2 hbase (fun z hz => (hown.lt z hz).1)
  exact h v' w' (own_append h1) hB h2.size
/-- A text is put behind bytes of one's own. -/
theorem wp_app_str {ops : Array Oper} {rest : List Oper} {o : Oper} {a : Act} {Q : Exit → Act → World → Prop} {w : World} (hgd : o.guard = none) (s x : Operand)
    (ho : o.op = .call { callee := .builtin .append, args := #[s, x], argTypes := #[55, 9] }) (base : Nat) (v : Value) (l : List Nat) (hs : a.eval s = v) (hown : OwnB w base v l) (S : ByteArray)
    (hx : a.eval x = .string S) (hlen : l.length + S.size ≤ 2000) (hbase : base ≤ w.heap.size)
    (h : ∀ v' w', OwnB w' base v' (l ++ natsOf S) → Below base w w' → w.heap.size ≤ w'.heap.size → wpList Tryd.prog ops Q rest (a.put o.dst v') w') : wpList Tryd.prog ops Q (o :: rest) a w := by
  obtain ⟨i1, hj, hy0, hy1, hy2⟩ := info_parts Tryd.infoByte
  refine wpList_append_own_string w hgd s x 55 9 ho base 5 i1 Tryd.underlying55 Tryd.underlying9 hj hy0 hy1 hy2 v l.length (by8 l) hs hown S hx (by unfold maxLen; omega) (by omega) hbase ?_
  intro v' w' h1 h2 _
  have hB : Below base w w' := (Below.refl base w).grown h2 hbase (fun z hz => (hown.lt z hz).1)
  exact h v' w' (own_append (by rw [natsOf_len, by8_nats]; exact h1)) hB h2.size

set_option maxRecDepth 100000 in
set_option maxHeartbeats 2000000 in
theorem two_any (base : Nat) (v0 : Value) (l : List Nat) (n : Nat) (w : World) (ho : OwnB w base v0 l) (hn : n < 65536) (hb : base ≤ w.heap.size) (hl : l.length ≤ 900) :
    Calls Tryd.prog 57 #[v0, .int .i64 n] w fun e w' => ∃ v', e = .returned v' ∧ OwnB w' base v' (l ++ [n / 256, n % 256]) ∧ Below base w w' ∧ w.heap.size ≤ w'.heap.size := by
  have h2 : (n : Int) < 65536 := by omega
  have HO : Hid (OwnB (w.alloc (.cells #[.int .u8 ((n : Int) / 256), .int .u8 ((n : Int) % 256)] 5)) base v0 l) := ho.below ((Below.refl _ _).alloc (Nat.le_refl _) _)
  clear ho
  have HC : Hid ((#[.int .u8 ((n : Int) / 256), .int .u8 ((n : Int) % 256)] : Array Value).toList = by8 [n / 256, n % 256]) := by simp [Hid, by8]
  go_enter Tryd.func57, Tryd.ntmps57
  go_wp2_with (at_builtin; refine wp_app rfl _ _ rfl base v0 l rfl HO.out w.heap.size 2 [n / 256, n % 256] rfl (cells_new w _ _ HC.out) (by simp; omega) (by simp; omega) ?_; intro v' w2 ho2 hb2 hz2)
  go_ret
  exact ⟨_, rfl, ho2, ((Below.refl _ _).alloc hb _).trans hb2, by simp at hz2; omega⟩
end Go.Proofs.YtdboppcnnjacmaaDoor
