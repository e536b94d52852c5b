/- slices.AppendSeq(nil, seq) and slices.Collect(seq) at places, against whatever iterator that gives. -/
import Derived.Test.YtdeilkpcmgcbaaaKeysRef
import Derived.Test.YtdeilkpcmgcbaaaSliceOf
namespace Go.Proofs.Ytdeilkpcmgcbaaa
open Go.RowKit Go.Maps

def refK : Sort8 RefD := ⟨33, RefD.cells, fun _ _ => True, noRef, by omega, fun _ x _ => x.len, RefD.one, fun h _ => h⟩
def Try.refAt : SortAt Try.prog refK 69 32 := ⟨40, by omega, by show 33 ≤ 100000; omega, .agg noRef.cells.toArray, Try.underlying69, by kernel_rfl, by kernel_rfl⟩
section
variable {α : Type} {F : Fence} {n : Nat} {P : Program} {ops : Array Oper} {rest : List Oper} {o : Oper} {a : Act} {w : World} {Q : Exit → Act → World → Prop}
theorem wpListIn_any {v : Value} {w' : World} (hg : o.guard = none) (hab : ∀ f, o.about P w a.eval = some f → F.fn f) (hnd : ∀ c, o.op ≠ .defer c) (hrun : (execOp a.eval o).run P w = .ok (.value v) w')
    (h : wpListIn F n P ops Q rest (a.put o.dst v) w') : wpListIn F n P ops Q (o :: rest) a w := by
  refine wpListIn_plain hg fun K hK => ?_
  unfold Oper.wpIn
  refine ⟨hab, ?_⟩
  rw [Oper.semAt_plain F _ _ hnd, hrun]
  exact hK _ _ h
theorem run_lit_of {K : Sort8 α} {ts t : TypeId} (S : SortAt P K ts t) (w : World) {x : α} (hx : (K.cells x).length = K.size) :
    (Instr.buildSlice ts 1 #[(0, .agg (K.cells x).toArray)]).run P w = .ok (.slice (some ⟨w.heap.size, 0, none⟩) 1 1) (w.alloc (.cells (K.cells x).toArray t)) := by
  obtain ⟨ie, h1, h2, h3, _⟩ := info_parts S.info
  have hk := S.ksmall
  have hp := K.pos
  have hf := fill_one K.pos hx ((Array.range (1 * K.size)).map (S.zero.cells[· % S.zero.cells.size]!)) (by simp)
  exact run_buildSlice w ts t 1 _ _ ie _ S.under h1 h2 (by rw [h3]; omega) (by rw [h3]; omega) (by rw [h3]; exact hf)
theorem wpListIn_lit_of {K : Sort8 α} {ts t : TypeId} (S : SortAt P K ts t) (hg : o.guard = none) (u : Operand) (ho : o.op = .buildSlice ts 1 #[(0, u)]) (x : α) (hu : a.eval u = .agg (K.cells x).toArray) (hx : (K.cells x).length = K.size)
    (h : wpListIn F n P ops Q rest (a.put o.dst (.slice (some ⟨w.heap.size, 0, none⟩) 1 1)) (w.alloc (.cells (K.cells x).toArray t))) : wpListIn F n P ops Q (o :: rest) a w :=
  wpListIn_any hg (by simp [Oper.about, ho]) (by rw [ho]; intro c e; cases e) (by unfold execOp; simp only [ho, List.map_toArray, List.map_cons, List.map_nil, hu, Sem.run_bind, run_lit_of S w hx, Sem.run_pure, Result.andThen_ok]) h
theorem wpListIn_append_of {K : Sort8 α} {ts t : TypeId} (S : SortAt P K ts t) (hg : o.guard = none) (u y : Operand) (ho : o.op = .call { callee := .builtin .append, args := #[u, y], argTypes := #[ts, ts] }) (hty : o.type = ts)
    (B : Nat) (v : Value) (xs : List α) (hu : a.eval u = v) (hO : OwnOf K t w B v xs) (p : Nat) (x : α) (hy : a.eval y = .slice (some ⟨p, 0, none⟩) 1 1) {tp : TypeId} {fr : Nat × Nat} (hp : w.heap[p]? = some (.cells (K.cells x).toArray tp fr)) (hx : (K.cells x).length = K.size) (hb : xs.length + 1 ≤ 1000000) (hB : B ≤ w.heap.size)
    (hk : ∀ a' c' w', OwnOf K t w' B (.slice a' (xs.length + 1) c') (xs ++ [x]) → w.grownBy w' v.ownBlock → wpListIn F n P ops Q rest (a.put o.dst (.slice a' (xs.length + 1) c')) w') : wpListIn F n P ops Q (o :: rest) a w := by
  obtain ⟨a', c', w', h1, h2, h3⟩ := append_of S w B v xs hO p x hp hx hb hB
  exact wpListIn_any hg (by simp [Oper.about, ho, resolve, Target.leads, Sem.run_pure]) (by rw [ho]; intro c e; cases e)
    (by unfold execOp; simp only [ho, hty, resolve, invoke, builtin, Sem.run_bind, Sem.run_pure, Result.andThen_ok, List.map_toArray, List.map_cons, List.map_nil, hu, hy, h1]) (hk a' c' w' h2 h3)
end
theorem OwnOf.grown {α : Type} {K : Sort8 α} {t : TypeId} {w w' : World} {B : Nat} {v : Value} {xs : List α} {r : Option Nat} (h : OwnOf K t w B v xs) (hg : w.grownBy w' r) (hne : ∀ k, v.ownBlock = some k → r ≠ some k) : OwnOf K t w' B v xs :=
  ⟨World.ownsRow.kept h.1 hg (by
    cases h' : v.ownBlock with
    | none => exact .inl rfl
    | some k => exact .inr (fun e => hne k h' e.symm)), h.2⟩
theorem OwnOf.no_walk {α : Type} {K : Sort8 α} {t : TypeId} {w : World} {B : Nat} {v : Value} {xs : List α} (h : OwnOf K t w B v xs) {j : Nat} {o : Obj} (hj : w.heap[j]? = some o) (ho : ∀ cs fr, o ≠ .cells cs t fr) : ∀ k, v.ownBlock = some k → j ≠ k := by
  intro k e
  rcases h.1.2 with ⟨rfl, _⟩ | ⟨g, cap, cur, rfl, _, hh, _⟩
  · cases e
  · simp [Value.ownBlock] at e
    subst e
    rintro rfl
    rw [hh] at hj
    exact ho _ _ (Option.some.inj hj).symm

def apAssign : Code := Code.region 2 #[{ dst := some 5, op := Op.alloc 32, type := 0, pos := "iter.go:51", after := #[], guard := none }, { dst := none, op := Op.store 32 (Operand.tmp 5) (Operand.tmp 7), type := 0, pos := "iter.go:51", after := #[{ on := 0, ground := Ground.data }, { on := 0, ground := Ground.phase }], guard := none }] false
def apBody : Code := Code.block 1 (Code.region 3 #[{ dst := some 8, op := Op.load 69 (Operand.tmp 2), type := 69, pos := "iter.go:52", after := #[], guard := none }, { dst := some 9, op := Op.load 32 (Operand.tmp 5), type := 32, pos := "iter.go:52", after := #[], guard := none }, { dst := some 10, op := Op.buildSlice 69 1 #[(0, Operand.tmp 9)], type := 69, pos := "iter.go:52", after := #[{ on := 1, ground := Ground.data }], guard := none }, { dst := some 11, op := Op.call { callee := Callee.builtin Builtin.append, args := #[Operand.tmp 8, Operand.tmp 10], argTypes := #[69, 69] }, type := 69, pos := "iter.go:52", after := #[{ on := 0, ground := Ground.data }, { on := 2, ground := Ground.data }], guard := none }, { dst := none, op := Op.store 69 (Operand.tmp 2) (Operand.tmp 11), type := 0, pos := "iter.go:52", after := #[{ on := 3, ground := Ground.data }, { on := 3, ground := Ground.chain }, { on := 0, ground := Ground.phase }, { on := 1, ground := Ground.phase }, { on := 2, ground := Ground.phase }, { on := 3, ground := Ground.phase }], guard := none }] false)
/-- The loop's record. -/
def apRec (fn : FuncId) (sv : Value) (Bs D : Nat) (st : LoopState) (pend : Option Code) : Loop :=
  { state := st, pending := pend, fn, tmps := #[.slice none 0 0, sv, .pointer (some ⟨Bs, 0, none⟩), undef, .slice none 0 0, undef, sv, undef, undef, undef, undef, undef, undef], params := #[7], assign := apAssign, body := apBody, defers := D }
/-- Between two rounds. -/
structure ApAt (w0 : World) (fn : FuncId) (sv : Value) (Bs l D : Nat) (ss : List RefD) (W : World) : Prop where
  box : ∃ v, W.heap[Bs]? = some (.cells #[v] 69 (0, 0)) ∧ OwnOf refK 32 W w0.heap.size v ss
  L : W.heap[l]? = some (.loop (apRec fn sv Bs D .ready none))
  K : W.heap[D]? = some (.deferred (some []))
  below : Below w0.heap.size w0 W
theorem ap_abides (w0 : World) (fn : FuncId) (sv : Value) (Bs l D B : Nat) (hB : w0.heap.size ≤ B) : AbidesFrom B (ApAt w0 fn sv Bs l D) := fun s W W' row h hg hrow => by
  have hrow' : ∀ r, row = some r → ∃ o : Obj, W.heap[r]? = some o ∧ o.isWalk = true := fun r e => (hrow r e).2
  obtain ⟨v, hv, hr⟩ := h.box
  refine ⟨⟨v, (grownBy_keeps hg hrow' hv rfl).trans hv, hr.grown hg (fun k e e2 => ?_)⟩, (grownBy_keeps hg hrow' h.L rfl).trans h.L, (grownBy_keeps hg hrow' h.K rfl).trans h.K,
    h.below.grown hg h.below.size (fun k e => Nat.le_trans hB (hrow k e).1)⟩
  obtain ⟨o, ho, hw⟩ := hrow' k e2
  exact hr.no_walk ho (fun cs fr e3 => by rw [e3] at hw; cases hw) k e rfl
set_option linter.unusedSimpArgs false in
set_option maxRecDepth 100000 in
set_option maxHeartbeats 12800000 in
theorem apYield (F : Fence) (m : Nat) (w0 : World) (fn : FuncId) (hfn : F.fn fn) (sv : Value) (Bs l D : Nat) (hBl : Bs ≠ l) (hDl : D ≠ l) (hDB : D ≠ Bs) (h0B : w0.heap.size ≤ Bs) (h0l : w0.heap.size ≤ l)
    (N : Nat) (hN : N ≤ 1000000) (ss : List RefD) (x : RefD) (W : World) (h : ApAt w0 fn sv Bs l D ss W) (hlen : ss.length < N) :
    YieldAt F m Try.prog l #[.agg x.cells.toArray] W fun e W' => e = .returned (.bool true) ∧ ApAt w0 fn sv Bs l D (ss ++ [x]) W' ∧ KeepsWalks W W' := by
  obtain ⟨v, hv, hrow⟩ := h.box
  refine ⟨fn, #[.slice none 0 0, sv, .pointer (some ⟨Bs, 0, none⟩), undef, .slice none 0 0, undef, sv, .agg x.cells.toArray, undef, undef, undef, undef, undef], apAssign, apBody, by simpa [apRec] using run_yield (P := Try.prog) (args := #[.agg x.cells.toArray]) h.L rfl, roundIn_of_wpIn hfn ?_⟩
  have hl : l < W.heap.size := (Array.getElem?_eq_some_iff.1 h.L).1
  have hBl0 : Bs < W.heap.size := (Array.getElem?_eq_some_iff.1 hv).1
  have hDl0 : D < W.heap.size := (Array.getElem?_eq_some_iff.1 h.K).1
  obtain ⟨W2, hW2⟩ : ∃ W2, layRef W x = W2 := ⟨_, rfl⟩
  have hg2 : W.grownBy W2 none := by rw [← hW2]; exact layRef_grown W x none
  have hk2 : KeepsWalks W W2 := by rw [← hW2]; exact layRef_walks W x
  have hh2 : W2.heap[W.heap.size]? = some (.cells x.cells.toArray 32 (0, 0)) := by rw [← hW2]; exact layRef_heap W x
  have hs2 : W2.heap.size = W.heap.size + 1 := by rw [← hW2]; exact layRef_size W x
  have hold2 : ∀ k, k < W.heap.size → W2.heap[k]? = W.heap[k]? := fun k hk => by rw [← hW2]; exact layRef_old W x hk
  have hv2 := (hold2 Bs hBl0).trans hv
  have hK2 := (hold2 D hDl0).trans h.K
  have hL2 := (hold2 l hl).trans h.L
  have hrow2 : OwnOf refK 32 W2 w0.heap.size v ss := hrow.grown hg2 (fun k _ e2 => by cases e2)
  have hb2 : Below w0.heap.size w0 W2 := h.below.grown hg2 h.below.size (fun k e => by cases e)
  have hbr := run_beginRound (P := Try.prog) hL2 rfl
  obtain ⟨W3, hW3⟩ : ∃ W3, W2.putObj l (.loop { (apRec fn sv Bs D .ready none) with state := .busy }) = W3 := ⟨_, rfl⟩
  rw [hW3] at hbr
  have hg3 : W2.grownBy W3 (some l) := by rw [← hW3]; exact grownBy_putObj_a _ _ _
  have hk3 : KeepsWalks W2 W3 := by rw [← hW3]; exact KeepsWalks.putObj _ hL2 rfl
  have hv3 : W3.heap[Bs]? = some (.cells #[v] 69 (0, 0)) := by rw [← hW3]; exact (World.putObj_heap_other hBl).trans hv2
  have hK3 : W3.heap[D]? = some (.deferred (some [])) := by rw [← hW3]; exact (World.putObj_heap_other hDl).trans hK2
  have hL3 : W3.heap[l]? = some (.loop { (apRec fn sv Bs D .ready none) with state := .busy }) := by rw [← hW3]; exact World.putObj_heap_same (by omega)
  have hh3 : W3.heap[W.heap.size]? = some (.cells x.cells.toArray 32 (0, 0)) := by rw [← hW3]; exact (World.putObj_heap_other (by omega)).trans hh2
  have hs3 : W3.heap.size = W2.heap.size := by rw [← hW3]; simp
  have hrow3 : OwnOf refK 32 W3 w0.heap.size v ss := hrow2.grown hg3 (fun k e e2 => hrow2.no_walk hL2 (fun cs fr e3 => by cases e3) k e (Option.some.inj e2))
  have hb3 : Below w0.heap.size w0 W3 := hb2.grown hg3 hb2.size (fun k e => by cases e; exact h0l)
  obtain ⟨hc3, hf3⟩ := cell_of_box_a hv3
  clear hW3
  unfold apAssign
  gi_wp2_with (first
    | (refine wpListIn_layRef rfl _ _ rfl W x rfl rfl rfl ?_; rw [hW2])
    | gi_round_op_a)
  clear hs2 hs3
  unfold apBody
  have hrow4 : OwnOf refK 32 (W3.alloc (.cells x.cells.toArray 32)) w0.heap.size v ss := hrow3.grown (World.grownBy_alloc W3 _ none) (fun k _ e2 => by cases e2)
  have hx : (refK.cells x).length = refK.size := x.len
  gi_wp2_with (first
    | (refine wpListIn_load_row9 rfl 32 _ rfl W.heap.size rfl 32 x.cells.toArray (0, 0) _ hh3 Try.underlying32 rfl (refD_size x) ?_)
    | (refine wpListIn_lit_of Try.refAt rfl _ rfl x rfl hx ?_)
    | (refine wpListIn_append_of Try.refAt rfl _ _ rfl rfl w0.heap.size v ss rfl hrow4 W3.heap.size x rfl (tp := 32) (fr := (0, 0)) (heap_alloc_new _ _) hx (by omega) (by have := hb3.size; simp; omega) ?_; intro a5 c5 W5 hown5 hg5
       have hv5 : W5.heap[Bs]? = some (.cells #[v] 69 (0, 0)) := (hg5.block Bs (by have := lt_of_block hv3; simp; omega) (fun e => hrow3.no_walk hv3 (fun cs fr e3 => by cases e3) Bs e.symm rfl)).trans ((heap_alloc_old _ _ (lt_of_block hv3)).trans hv3)
       obtain ⟨hc5, hf5⟩ := cell_of_box_a hv5
       go_frame)
    | gi_round_op_a)
  have hL5 : W5.heap[l]? = some (.loop { (apRec fn sv Bs D .ready none) with state := .busy }) := (hg5.block l (by have := (Array.getElem?_eq_some_iff.1 hL3).1; simp; omega) (fun e => hrow3.no_walk hL3 (fun cs fr e3 => by cases e3) l e.symm rfl)).trans ((heap_alloc_old _ _ (Array.getElem?_eq_some_iff.1 hL3).1).trans hL3)
  have hK5 : W5.heap[D]? = some (.deferred (some [])) := (hg5.block D (by have := (Array.getElem?_eq_some_iff.1 hK3).1; simp; omega) (fun e => hrow3.no_walk hK3 (fun cs fr e3 => by cases e3) D e.symm rfl)).trans ((heap_alloc_old _ _ (Array.getElem?_eq_some_iff.1 hK3).1).trans hK3)
  obtain ⟨W6, hW6⟩ : ∃ W6, W5.setCell ⟨Bs, 0, none⟩ (.slice a5 (ss.length + 1) c5) = W6 := ⟨_, rfl⟩
  rw [hW6]
  have hg6 : W5.grownBy W6 (some Bs) := by rw [← hW6]; exact grownBy_setCell0_a _ _ _
  have hv6 : W6.heap[Bs]? = some (.cells #[.slice a5 (ss.length + 1) c5] 69 (0, 0)) := by rw [← hW6]; exact heap_setCell_box_a _ hv5
  have hL6 : W6.heap[l]? = some (.loop { (apRec fn sv Bs D .ready none) with state := .busy }) := (hg6.block l (Array.getElem?_eq_some_iff.1 hL5).1 (fun e => hBl (by cases e; rfl))).trans hL5
  have hK6 : W6.heap[D]? = some (.deferred (some [])) := (hg6.block D (Array.getElem?_eq_some_iff.1 hK5).1 (fun e => hDB (by cases e; rfl))).trans hK5
  have hrow6 := hown5.grown hg6 (fun k e e2 => hown5.no_walk hv5 (fun cs fr e3 => by cases e3) k e (Option.some.inj e2))
  have hl6 : l < W6.heap.size := (Array.getElem?_eq_some_iff.1 hL6).1
  have hb5 : Below w0.heap.size w0 W5 := (hb3.alloc hb3.size _).grown hg5 (by have := hb3.size; simp; omega) (fun k e => (hrow3.lt k e).1)
  have hb6 : Below w0.heap.size w0 W6 := hb5.grown hg6 hb5.size (fun k e => by cases e; exact h0B)
  have hk6 : KeepsWalks W W6 := (((hk2.trans hk3).trans (KeepsWalks.alloc _ _)).trans (KeepsWalks.of_grownBy hg5 (fun j o e ho => by
    rcases hrow4.1.2 with ⟨rfl, _⟩ | ⟨g, cap, cur, rfl, _, hh, _⟩
    · cases e
    · simp [Value.ownBlock] at e
      subst e
      have e9 := hh.symm.trans ho
      cases e9
      rfl))).trans (by rw [← hW6]; exact KeepsWalks.setCell _ _ _)
  clear hW6
  refine ⟨_, _, run_endRound none hL6, rfl, ⟨⟨_, (World.putObj_heap_other hBl).trans hv6, ?_⟩, World.putObj_heap_same hl6, (World.putObj_heap_other hDl).trans hK6, hb6.grown (grownBy_putObj_a _ _ _) hb6.size (fun k e => by cases e; exact h0l)⟩, hk6.trans (KeepsWalks.putObj _ hL6 rfl)⟩
  exact hrow6.grown (grownBy_putObj_a _ _ _) (fun k e e2 => hrow6.no_walk hL6 (fun cs fr e3 => by cases e3) k e (Option.some.inj e2))
set_option linter.unusedSimpArgs false in
set_option maxRecDepth 100000 in
set_option maxHeartbeats 12800000 in
theorem appendSeq_in (F : Fence) (n : Nat) (hf : F.fn 51) (hro : F.round = none) (hn : 2 ≤ n) (g : Nat) (lb : Array Value) (hFg : F.fn g) (eg : ∀ args w, (callFunc g args).run Try.prog w = .ok (.enter g args) w)
    (S : List RefD → Prop) (N : Nat) (hN : N ≤ 1000000) (w : World) (hseq : SeqGives F (n - 1) Try.prog g lb (fun x : RefD => .agg x.cells.toArray) S N w) :
    CallsIn F n Try.prog 51 #[.slice none 0 0, .func (.func g) #[] lb] w fun e w' => ∃ (v : Value) (ss : List RefD), e = .returned v ∧ S ss ∧ OwnOf refK 32 w' w.heap.size v ss ∧ Below w.heap.size w w' := by
  have h1 : 1 ≤ n := by omega
  refine callsIn_of_wp_marks Try.func51 rfl hf ?_ hro
  simp only [Try.ntmps51, List.size_toArray, List.length_cons, List.length_nil, Nat.reduceAdd, Nat.reduceSub, Array.replicate_succ, Array.replicate_zero, List.push_toArray, List.append_toArray, List.nil_append, List.cons_append]
  gi_wp2
  refine wpIn_rangeFunc ?_
  intro fn hfn
  rw [hro]
  obtain ⟨W0, hW0⟩ : ∃ W0, w.alloc (.cells #[.slice none 0 0] 69) = W0 := ⟨_, rfl⟩
  have hs0 : W0.heap.size = w.heap.size + 1 := by rw [← hW0]; simp
  have hv0 : W0.heap[w.heap.size]? = some (.cells #[.slice none 0 0] 69 (0, 0)) := by rw [← hW0]; exact World.alloc_heap_new w _
  have hb0 : Below w.heap.size w W0 := by rw [← hW0]; exact (Below.refl _ w).alloc (Nat.le_refl _) _
  rw [hW0]
  obtain ⟨W1, hW1⟩ : ∃ W1, (W0.alloc (.deferred (some []))).alloc (.loop (apRec fn (.func (.func g) #[] lb) w.heap.size W0.heap.size .ready none)) = W1 := ⟨_, rfl⟩
  have hold : ∀ k, k < W0.heap.size → W1.heap[k]? = W0.heap[k]? := fun k hk => by
    rw [← hW1]; exact (Below.heap_alloc _ _ k (by simp; omega)).trans (Below.heap_alloc _ _ k hk)
  have hb1 : Below w.heap.size w W1 := by rw [← hW1]; exact (hb0.alloc hb0.size _).alloc (by have := hb0.size; simp; omega) _
  have hs1 : W1.heap.size = W0.heap.size + 2 := by rw [← hW1]; simp
  have hM : ApAt w fn (.func (.func g) #[] lb) w.heap.size (W0.heap.size + 1) W0.heap.size [] W1 :=
    ⟨⟨_, (hold w.heap.size (by omega)).trans hv0, OwnOf.nil _ _ _ _⟩,
     by rw [← hW1]; have := World.alloc_heap_new (W0.alloc (.deferred (some []))) (.loop (apRec fn (.func (.func g) #[] lb) w.heap.size W0.heap.size .ready none)); rwa [World.size_alloc] at this,
     by rw [← hW1]; exact (Below.heap_alloc _ _ _ (by simp)).trans (World.alloc_heap_new W0 _), hb1⟩
  refine ⟨W0.heap.size + 1, [{ target := .collected W0.heap.size, args := #[] }], W1, { target := .fn (.func g) lb, args := #[.func (.yield (W0.heap.size + 1)) #[] #[]] }, W1, g,
    #[.func (.yield (W0.heap.size + 1)) #[] #[]] ++ lb, W1, ?_, ?_, ?_, ?_, fun _ => h1, ?_⟩
  · rw [← hW1]; exact run_enterLoop_outer _ _ _ _ _
  · simp [resolve, go_sem]
  · intro f' hf'; simp [Target.leads] at hf'; subst hf'; exact hFg
  · simp [invoke, go_sem, eg]
  · refine (hseq (W0.heap.size + 1) (ApAt w fn (.func (.func g) #[] lb) w.heap.size (W0.heap.size + 1) W0.heap.size) W1 hb1 (ap_abides _ _ _ _ _ _ _ hb1.size)
      (fun pre x W hJ hl => apYield F (n - 1 - 1) w fn hfn _ w.heap.size (W0.heap.size + 1) W0.heap.size (by omega) (by omega) (by omega) (Nat.le_refl _) (by omega) N hN pre x W hJ hl) hM).mono ?_
    rintro e W2 ⟨⟨v0, rfl⟩, ss, hS, h2⟩
    obtain ⟨v, hv, hrow⟩ := h2.box
    have hend := run_endLoop (P := Try.prog) h2.L (by simp [apRec])
    obtain ⟨W3, hW3⟩ : ∃ W3, W2.putObj (W0.heap.size + 1) (.loop { apRec fn (.func (.func g) #[] lb) w.heap.size W0.heap.size .ready none with state := .exhausted }) = W3 := ⟨_, rfl⟩
    rw [hW3] at hend
    have hg3 : W2.grownBy W3 (some (W0.heap.size + 1)) := by rw [← hW3]; exact grownBy_putObj_a _ _ _
    have hv3 : W3.heap[w.heap.size]? = some (.cells #[v] 69 (0, 0)) := by rw [← hW3]; exact (World.putObj_heap_other (by omega)).trans hv
    have hK3 : W3.heap[W0.heap.size]? = some (.deferred (some [])) := by rw [← hW3]; exact (World.putObj_heap_other (by omega)).trans h2.K
    have hrow3 := hrow.grown hg3 (fun k e e2 => hrow.no_walk h2.L (fun cs fr e3 => by cases e3) k e (Option.some.inj e2))
    have hb3 : Below w.heap.size w W3 := h2.below.grown hg3 h2.below.size (fun k e => by cases e; omega)
    obtain ⟨hc3, hf3⟩ := cell_of_box_a hv3
    clear hW3
    refine ⟨none, W3, hend, ?_⟩
    gi_wp2
    rw [← hs0]
    refine ⟨by simp, .inl ⟨_, _, rfl, run_takeDeferred hK3, ?_⟩⟩
    exact ⟨_, results_tmp rfl _ _ _, v, ss, rfl, hS, hrow3.grown (grownBy_putObj_a _ _ _) (fun k e e2 => hrow3.no_walk hK3 (fun cs fr e3 => by cases e3) k e (Option.some.inj e2)), hb3.grown (grownBy_putObj_a _ _ _) hb3.size (fun k e => by cases e; omega)⟩
set_option linter.unusedSimpArgs false in
set_option maxRecDepth 100000 in
set_option maxHeartbeats 12800000 in
theorem collect_in (F : Fence) (n : Nat) (hf : F.fn 45) (hf2 : F.fn 51) (hro : F.round = none) (hn : 3 ≤ n) (g : Nat) (lb : Array Value) (hFg : F.fn g) (eg : ∀ args w, (callFunc g args).run Try.prog w = .ok (.enter g args) w)
    (S : List RefD → Prop) (N : Nat) (hN : N ≤ 1000000) (w : World) (hseq : SeqGives F (n - 1 - 1) Try.prog g lb (fun x : RefD => .agg x.cells.toArray) S N w) :
    CallsIn F n Try.prog 45 #[.func (.func g) #[] lb] w fun e w' => ∃ (v : Value) (ss : List RefD), e = .returned v ∧ S ss ∧ OwnOf refK 32 w' w.heap.size v ss ∧ Below w.heap.size w w' := by
  have h1 : 1 ≤ n := by omega
  refine callsIn_of_wp Try.func45 rfl hf ?_ hro
  simp only [Try.ntmps45, List.size_toArray, List.length_cons, List.length_nil, Nat.reduceAdd, Nat.reduceSub, Array.replicate_succ, Array.replicate_zero, List.push_toArray, List.append_toArray, List.nil_append, List.cons_append]
  gi_wp2_with (gi_at_call 51; refine (appendSeq_in F (n - 1) hf2 hro (by omega) g lb hFg eg S N hN _ hseq).mono ?_; rintro e w' ⟨v, ss, rfl, hS, hrow, hb⟩)
  go_ret
  exact ⟨v, ss, rfl, hS, hrow, hb⟩
end Go.Proofs.Ytdeilkpcmgcbaaa
