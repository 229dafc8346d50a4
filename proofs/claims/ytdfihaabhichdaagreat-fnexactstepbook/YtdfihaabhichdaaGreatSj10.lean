/-
  The front of a tree: proved by walking the function.
-/
import Derived.Test.YtdfihaabhichdaaGreatSj04
import Derived.Test.YtdfihaabhichdaaGreatSj09
import Derived.Laws.EntriesVeiled
namespace Go.Proofs.YtdfihaabhichdaaGreat
open Go.RowKit
set_option linter.unusedVariables false

theorem best_b {S:TS}:∀ {t:Tr} {v:Nat},Rep S.nd t v→t ≠ .nil→v ∈ t.hs∧((S.nd v).be = 0→t.hs.head? = some v)∧((S.nd v).be ≠ 0→∃ l,Rep S.nd l (S.nd v).be∧l ≠ .nil∧l.hs.head? = t.hs.head?∧l.hs.length < t.hs.length∧∀ a ∈ l.hs,a ∈ t.hs)
  | .nil,_,_,h=>absurd rfl h
  | .node h l r,v,⟨e,h0,h1,h2⟩,_=>by
    subst e
    refine ⟨by simp [Tr.hs],fun hb=>?_,fun hb=>⟨l,h1,?_,?_,?_,fun a ha=>by simp [Tr.hs,ha]⟩⟩
    · rw [hb] at h1; obtain rfl:=rep_nil h1; rfl
    · rintro rfl; exact hb h1
    · cases l with
      | nil=>exact absurd h1 hb
      | node a l' r'=>simp [Tr.hs]
    · simp [Tr.hs]
def FrI_b (S:TS) (hd:Option Nat) (w0:World) (k:Nat) (p:Value) (wr:World):Prop:=∃ (t:Tr) (v:Nat),p = .int .i64 v∧Rep S.nd t v∧t ≠ .nil∧t.hs.head? = hd∧t.hs.length ≤ k∧(∀ a ∈ t.hs,a < 21)∧w0 = wr
set_option maxRecDepth 100000 in
set_option maxHeartbeats 400000 in
theorem front_b (b:Nat) (sd:Int) (seq:List Od) (w:World) (h:zai 196 true w b sd seq) (hn:seq.length ≤ 20) :
    Calls Tryz.prog 131 #[.pointer (some ⟨b,0,none⟩)] w fun e w'=>e = .returned (frOf (quOf true seq))∧Below w.heap.size w w':=by
  obtain ⟨S,t,hT,hi,hq,hlc⟩:=h
  have hou:=tree_orders hi hq
  have hh21:∀ a ∈ t.hs,a < 21:=fun a ha=>by have:=(hi.range a ha).2; omega
  have HT:=hide hT
  have hroot:=hT.root
  have hbs:=tm_lt hT
  by_cases hr0:S.root = 0
  · have ht:=hi.rep
    rw [hr0] at ht hroot
    obtain rfl:=rep_nil ht
    have HF:Hid (frOf (quOf true seq) = .tuple #[zOdv,.bool false]):=by show _ = _; rw [← hou]; rfl
    clear hi hq hlc hou hT ht hh21
    go_enter Tryz.func131,Tryz.ntmps131
    go_wp2_with fail
    go_returns
    refine ⟨by rw [za HF]; rfl,?_⟩
    go_grown
  · have hne:t ≠ .nil:=by rintro rfl; exact hr0 hi.rep
    have HI:=hide hi
    have HQ:=hide hq
    have HOU:=hide hou
    have HH:=hide hh21
    have HNE:=hide hne
    have hr0':¬ ((S.root:Int) = 0):=by omega
    clear hi hq hlc hou hT hh21 hne
    go_enter Tryz.func131,Tryz.ntmps131
    go_wp2_with fail
    go_loopg [4] (t.hs.length) (fun k p wr=>FrI_b S t.hs.head? (w.alloc (Obj.cells #[.int .i64 0,.int .i64 0,.int .i64 0,.int .i64 0,.int .i64 0,.string ⟨#[]⟩] 100)) k p wr)
    case atStart=>exact ⟨t,S.root,rfl,(za HI).rep,za HNE,rfl,Nat.le_refl _,za HH,rfl⟩
    case round =>
      obtain ⟨t1,v,rfl,h1,h2,h3,h4,h5,rfl⟩:=hrel
      obtain ⟨b1,b2,b3⟩:=best_b h1 h2
      have hv21:=h5 v b1
      have hv21':(v:Int) < 21:=by omega
      have hTW:=zam (za HT) (Below.heap_alloc w (Obj.cells #[.int .i64 0,.int .i64 0,.int .i64 0,.int .i64 0,.int .i64 0,.string ⟨#[]⟩] 100) b hbs)
      obtain ⟨-,-,-,-,n4,-,n6,-⟩:=zQ (hTW.nd v hv21)
      have H3:=hide h3
      have H4:=hide h4
      have H5:=hide h5
      by_cases hbe:(S.nd v).be = 0
      · have hhd:=b2 hbe
        rw [h3] at hhd
        have hvm:v ∈ t.hs:=List.mem_of_head? hhd
        have hQ:=(za HQ).q v hvm
        obtain ⟨e,rest,hqs⟩:∃ e rest,qs seq (S.nd v).ticks = e :: rest:=by
          cases hqq:qs seq (S.nd v).ticks with
          | nil=>exact absurd hqq hQ.ne
          | cons e rest=>exact ⟨e,rest,rfl⟩
        have hch:=hQ.chain
        rw [hqs] at hch
        obtain ⟨he,he0,-⟩:=hch
        have he21:e < 21:=by
          have:=(zbk (S.nd v).ticks seq 1 e (by have h:e ∈ qs seq (S.nd v).ticks:=(by rw [hqs]; simp); exact h)).2.1
          omega
        have he21':(e:Int) < 21:=by omega
        have HF:Hid (frOf (quOf true seq) = .tuple #[(S.qo e).od.val,.bool true]):=by
          show _ = _
          rw [← za HOU]
          obtain ⟨tl,htl⟩:∃ tl,t.hs = v :: tl:=by
            cases hh:t.hs with
            | nil=>rw [hh] at hhd; simp at hhd
            | cons a r=>rw [hh] at hhd; simp at hhd; rw [hhd]; exact ⟨r,rfl⟩
          rw [htl,List.flatMap_cons,hqs]
          rfl
        obtain ⟨q0,q1,q2,q3,q4,q5,-⟩:=zct (hTW.qo e he21)
        rw [he] at n6
        rw [hbe] at n4
        clear h1 h2 h3 h4 h5 b1 b2 b3 hTW hhd hvm hQ hqs he hbe
        go_wp2_with fail
        go_region
        go_wp2_with fail
        go_returns
        refine ⟨by rw [za HF]; rfl,?_⟩
        go_grown
      · obtain ⟨l,l1,l2,l3,l4,l5⟩:=b3 hbe
        have hbe':¬ (((S.nd v).be:Int) = 0):=by omega
        have HL:Hid (Rep S.nd l (S.nd v).be∧l ≠ .nil∧l.hs.head? = t1.hs.head?∧l.hs.length < t1.hs.length∧∀ a ∈ l.hs,a ∈ t1.hs):=⟨l1,l2,l3,l4,l5⟩
        clear h1 h2 h3 h4 h5 b1 b2 b3 hTW l1 l2 l3 l4 l5 hbe
        go_wp2_with fail
        go_roundg (l.hs.length)
        case measure=>have:=za H4; have:=(za HL).2.2.2.1; omega
        case rel=>exact ⟨l,_,rfl,(za HL).1,(za HL).2.1,(za HL).2.2.1.trans (za H3),Nat.le_refl _,fun a ha=>za H5 a ((za HL).2.2.2.2 a ha),rfl⟩
end Go.Proofs.YtdfihaabhichdaaGreat
namespace Go.Proofs.YtdfihaabhichdaaGreat
open Go.RowKit
set_option linter.unusedVariables false

def zbm (b:Nat):Value:=.agg #[.func (.func 131) #[.pointer (some ⟨b,0,none⟩)] #[],.func (.func 132) #[.pointer (some ⟨b,0,none⟩)] #[],.func (.func 133) #[.pointer (some ⟨b,0,none⟩)] #[]]
theorem ask_b (b:Nat) (w:World) :
    Calls Tryz.prog 107 #[.pointer (some ⟨b,0,none⟩)] w fun e w'=>e = .returned (zbm b)∧Below w.heap.size w w':=by
  have hmf:∀ (fn:Fn) (first cap:Array Value) (w:World),(Instr.makeFunc fn first cap).run Tryz.prog w = .ok (.func fn first cap) w:=fun _ _ _ _=>rfl
  go_enter Tryz.func107,Tryz.ntmps107
  go_wp2_with fail
  go_returns
  refine ⟨rfl,?_⟩
  go_grown
end Go.Proofs.YtdfihaabhichdaaGreat
namespace Go.Proofs.YtdfihaabhichdaaGreat
open Go.RowKit
set_option linter.unusedVariables false

theorem better_s (a c:Int) (w:World) :
    Calls Tryz.prog 178 #[.agg #[],.int .i64 a,.int .i64 c] w fun e w'=>e = .returned (.bool (decide (a < c)))∧w.grownBy w' none:=by
  go_enter Tryz.func178,Tryz.ntmps178
  go_wp2_with fail
  go_ret
  exact ⟨rfl,World.grownBy_alloc _ _ _⟩
theorem method_s (w:World):Sem.run Tryz.prog (method 327 159 (.agg #[]) "loop.example/g00092/impl.better") w = .ok (178,.agg #[]) w:=by kernel_rfl
theorem part_s {w:World} {b:Nat} (h:∃ cur,w.heap[b]? = some (.cells cur 199 (0,0))):Sem.run Tryz.prog (partAt ⟨b,0,none⟩ 0 0) w = .ok ⟨b,0,none⟩ w:=by
  obtain ⟨cur,h⟩:=h
  have hc:Tryz.prog.cellsOf 199 = 318:=by kernel_rfl
  have hy:byteOfCell Tryz.prog Tryz.prog.depth 199 0 = some 0:=by kernel_rfl
  have hs:w.shape? b = some (199,cur.size):=by simp [World.shape?,h]
  simp [partAt,byteOf,noView,viewAt,hs,hc,hy]
set_option maxRecDepth 100000 in
set_option maxHeartbeats 400000 in
theorem levelFor_s (b:Nat) (S:TS) (t:Tr) (o:Od) (w:World) (hT:TM 199 w b S) (hi:TI false S t) (hlc:S.lc < 20) :
    Calls Tryz.prog 155 #[.pointer (some ⟨b,0,none⟩),.agg #[.int .i64 o.id,.int .i64 o.side,.int .i64 o.ticks,.int .i64 o.left,.int .i64 o.life,.string o.tag]] w fun e w' =>
      ∃ (h:Nat),e = .returned (.int .i64 h)∧LFEnd false 199 b S t o w h w':=by
  have HT:=hide hT
  have HI:=hide hi
  clear hT hi
  go_enter Tryz.func155,Tryz.ntmps155
  go_wp2_with fail
  have HW:Hid (∃ W,W = (w.alloc (Obj.cells #[.int .i64 o.id,.int .i64 o.side,.int .i64 o.ticks,.int .i64 o.left,.int .i64 o.life,.string o.tag] 100))∧W.rangeAt w.heap.size 0 o.vs∧TM 199 W b S∧w.grownBy W (some b)∧w.heap.size < W.heap.size∧b ≠ w.heap.size) :=
    ⟨_,rfl,zh w o.vs _,zam (za HT) (Below.heap_alloc w _ _ (tm_lt (za HT))),World.grownBy_alloc _ _ _,by rw [ze]; omega,by have:=tm_lt (za HT); omega⟩
  obtain ⟨W,hW,hWW⟩:=za HW
  rw [← hW]
  have HW2:=hide hWW
  clear hW hWW HW HT
  go_loopg [5] (t.hs.length) (fun k p wr=>LFI false b S t o.ticks W k p wr)
  case atStart=>exact ⟨[],t,rfl,Nat.le_refl _,way_start (za HI) _,World.grownBy.refl _ _⟩
  case round =>
    obtain ⟨c,u,rfl,hk,hw,hg⟩:=hrel
    have HWay:=hide hw
    have HG:=hide hg
    have HK:=hide hk
    have hT:=zcw (za HW2).2.1 hg (by simp)
    have c0:=cur_cell hT (zW c) (cur_ok (za HI) hw hlc)
    obtain ⟨o0,o1,o2,o3,o4,o5⟩:=zy (zu (za HW2).1 hg (za HW2).2.2.2.1 (by simp))
    clear hk hw hg
    by_cases ha:S.rd (zW c) = 0
    · have hr0:=hT.lc
      have hf:=hT.fr
      have HA0:=hide ha
      rw [ha] at c0
      have hlc':(S.lc:Int) < 20:=by omega
      have e1:((S.lc + 1:Nat):Int) = (S.lc:Int) + 1:=by omega
      have hok:=cur_ok (za HI) (za HWay) hlc
      have t1:=tm_lc hT (S.lc + 1)
      have t2:=tm_cur t1 (zW c) hok (S.lc + 1)
      rw [e1] at t1 t2
      have d2:_ = _:=(cur_cell t1 (zW c) hok).trans (congrArg (fun x:Nat=>some (Value.int .i64 x)) (show TS.rd _ (zW c) = 0 from by rw [← ha]; cases (zW c) <;> rfl))
      have d3:_ = _:=t2.lc
      rw [(wr_same _ _ _).1] at d3
      simp only [e1] at d3
      have g1:=t1.fr
      have g2:=t2.fr
      obtain ⟨n0,n1,n2,n3,-⟩:=zQ (t2.nd (S.lc + 1) (by omega))
      have hb:b ≠ w.heap.size:=(za HW2).2.2.2.2
      have p1:((wr.setCell ⟨b,1,none⟩ (.int .i64 ((S.lc:Int) + 1))).setCell ⟨b,(zW c).off,none⟩ (.int .i64 ((S.lc:Int) + 1))).cell? ⟨w.heap.size,0 + 1,none⟩ = some (.int .i64 o.side):=by
        rw [World.cell?_setCell_other _ _ _ _ (fun e=>hb (congrArg Addr.block e)),World.cell?_setCell_other _ _ _ _ (fun e=>hb (congrArg Addr.block e))]; exact o1
      have p2:((wr.setCell ⟨b,1,none⟩ (.int .i64 ((S.lc:Int) + 1))).setCell ⟨b,(zW c).off,none⟩ (.int .i64 ((S.lc:Int) + 1))).cell? ⟨w.heap.size,0 + 2,none⟩ = some (.int .i64 o.ticks):=by
        rw [World.cell?_setCell_other _ _ _ _ (fun e=>hb (congrArg Addr.block e)),World.cell?_setCell_other _ _ _ _ (fun e=>hb (congrArg Addr.block e))]; exact o2
      have HT2:=hide t2
      have HB:=hide hb
      clear ha hT t1 t2 hok hb
      go_wp2_with fail
      have HG4:Hid (wr.grownBy ((wr.setCell ⟨b,1,none⟩ (.int .i64 ((S.lc:Int) + 1))).setCell ⟨b,(zW c).off,none⟩ (.int .i64 ((S.lc:Int) + 1))) (some b)):=zR (zR (World.grownBy.refl _ _) _ _) _ _
      generalize hW4:((wr.setCell ⟨b,1,none⟩ (.int .i64 ((S.lc:Int) + 1))).setCell ⟨b,(zW c).off,none⟩ (.int .i64 ((S.lc:Int) + 1))) = W4 at *
      rw [← e1] at d3
      obtain ⟨m,hm⟩:∃ m,m = S.lc + 1:=⟨_,rfl⟩
      rw [← hm] at d3 n0 n1 n2 n3
      have hm21:(m:Int) < 21:=by omega
      have HM:=hide hm
      clear hW4 hm e1 d2 hr0 hf g1 c0 o0 o1 o2 o3 o4 o5 hlc'
      go_region
      have t3:=za HT2
      have t4:=zbq t3 (S.lc + 1) 0 (by omega) (by omega) (.int .i64 o.side) { (TS.nd _ (S.lc + 1)) with side:=o.side } rfl _ rfl
      have t5:=zbq t4 (S.lc + 1) 1 (by omega) (by omega) (.int .i64 o.ticks) { (TS.nd _ (S.lc + 1)) with ticks:=o.ticks } rfl _ rfl
      have t6:=zbq t5 (S.lc + 1) 2 (by omega) (by omega) (.int .i64 0) { (TS.nd _ (S.lc + 1)) with qty:=0 } rfl _ rfl
      have t7:=zbq t6 (S.lc + 1) 3 (by omega) (by omega) (.int .i64 0) { (TS.nd _ (S.lc + 1)) with count:=0 } rfl _ rfl
      have HG7:=hide (gr_drew (zR (zR (zR (zR (za HG4) (2 + m * 8) (.int .i64 o.side)) (2 + m * 8 + 1) (.int .i64 o.ticks)) (2 + m * 8 + 2) (.int .i64 0)) (2 + m * 8 + 3) (.int .i64 0)))
      rw [← za HM] at t7
      simp only [zcc,zp] at t7
      have hS:_ = S.grow (zW c) o.side o.ticks:=grow_eq S (zW c) o m (za HM)
      rw [hS] at t7
      have d7:_ = some (Value.int .i64 (m:Int)):=t7.lc.trans (by rw [za HM]; rfl)
      have HT7:=hide t7
      clear t3 t4 t5 t6 t7 n0 n1 n2 n3 d3 p1 p2
      generalize (((W4.setCell ⟨b,2 + m * 8,none⟩ (.int .i64 o.side)).setCell ⟨b,2 + m * 8 + 1,none⟩ (.int .i64 o.ticks)).setCell ⟨b,2 + m * 8 + 2,none⟩ (.int .i64 0)).setCell ⟨b,2 + m * 8 + 3,none⟩ (.int .i64 0) = W7 at *
      go_wp2_with fail
      go_ret
      exact ⟨m,rfl,_,zam (za HT7) rfl,(za HW2).2.2.1.trans (((za HG).but _).trans (za HG7)),.inr ⟨c,u,za HWay,za HA0,za HM,rfl⟩⟩
    · have ham:=way_at (za HWay) rfl ha
      have har:=(za HI).range _ ham
      obtain ⟨a,hae⟩:∃ a,a = S.rd (zW c):=⟨_,rfl⟩
      rw [← hae] at c0 ha ham har
      have HAE:=hide hae
      have ha':¬ ((a:Int) = 0):=by omega
      have ha21:(a:Int) < 21:=by omega
      obtain ⟨n0,n1,n2,n3,n4,n5,n6,n7⟩:=zQ (hT.nd a (by omega))
      have HTM:=hide hT
      have hpt:∀ w',wr.grownBy w' none→Sem.run Tryz.prog (partAt ⟨b,0,none⟩ 0 0) w' = .ok ⟨b,0,none⟩ w':=fun w' h=>part_s (zcw (za HTM) h (by simp)).obj
      have HPT:=hide hpt
      have HN1:=hide (fun w' (h:wr.grownBy w' none)=>h.cell n1 (by simp))
      have HO2:=hide (fun w' (h:wr.grownBy w' none)=>h.cell o2 (by simp))
      clear hae hT hpt
      go_wp2_with fail
      go_quiet (fail)
      go_wp2_with fail
      refine zaq (W:=wr) (by kernel_rfl) (by kernel_rfl) ⟨rfl,rfl,rfl,Nat.le_refl _,fun _ _ _=>rfl⟩ ?_
      iterate 12 (
        refine zag (v:=?_) ?_ ?_ ?_
        rotate_left
        · rfl
        · intro w' hw'
          have f1:=za HN1 w' hw'
          have f2:=za HO2 w' hw'
          have f3:=za HPT w' hw'
          go_simp
          try rfl
        intro K hK
        go_simp
        refine hK _ ?_
        clear hK K)
      refine zag (v:=.bool (decide (o.ticks < (S.nd a).ticks))) ?_ ?_ ?_
      · rfl
      · intro w' hw'
        have hm:=method_s w'
        go_simp
        refine (better_s _ _ _).mono ?_
        rintro e w3 ⟨rfl,hg3⟩
        exact ⟨rfl,hw'.trans hg3⟩
      intro K hK
      go_simp
      refine hK _ ?_
      clear hK K
      refine zag (v:=?_) ?_ ?_ ?_
      rotate_left
      · rfl
      · intro w' hw'
        go_simp
        try rfl
      intro K hK
      go_simp
      refine hK _ ?_
      clear hK K
      refine wpQuiet_nil ?_
      intro w2 hg2
      have HG2:=hide hg2
      clear hg2
      by_cases h1:o.ticks < (S.nd a).ticks
      · have h1':decide (o.ticks < (S.nd a).ticks) = true:=by simpa using h1
        go_wp2_with fail
        obtain ⟨l,r,rfl,hw2⟩:=way_be (za HI) (za HWay) (za HAE).symm ha h1
        go_roundg (l.hs.length)
        case measure=>have:=za HK; simp [Tr.hs] at this; omega
        case rel=>exact ⟨_,l,rfl,Nat.le_refl _,hw2,(za HG).trans (za HG2)⟩
      · have h1':decide (o.ticks < (S.nd a).ticks) = false:=by simpa using h1
        go_wp2_with fail
        refine zaq (W:=wr) (by kernel_rfl) (by kernel_rfl) (za HG2) ?_
        iterate 12 (
          refine zag (v:=?_) ?_ ?_ ?_
          rotate_left
          · rfl
          · intro w' hw'
            have f1:=za HN1 w' hw'
            have f2:=za HO2 w' hw'
            have f3:=za HPT w' hw'
            go_simp
            try rfl
          intro K hK
          go_simp
          refine hK _ ?_
          clear hK K)
        refine zag (v:=.bool (decide ((S.nd a).ticks < o.ticks))) ?_ ?_ ?_
        · rfl
        · intro w' hw'
          have hm:=method_s w'
          go_simp
          refine (better_s _ _ _).mono ?_
          rintro e w3 ⟨rfl,hg3⟩
          exact ⟨rfl,hw'.trans hg3⟩
        intro K hK
        go_simp
        refine hK _ ?_
        clear hK K
        refine zag (v:=?_) ?_ ?_ ?_
        rotate_left
        · rfl
        · intro w' hw'
          go_simp
          try rfl
        intro K hK
        go_simp
        refine hK _ ?_
        clear hK K
        refine wpQuiet_nil ?_
        intro w3 hg3
        have HG3:=hide hg3
        clear hg3
        by_cases h2:(S.nd a).ticks < o.ticks
        · have h2':decide ((S.nd a).ticks < o.ticks) = true:=by simpa using h2
          go_wp2_with fail
          obtain ⟨l,r,rfl,hw2⟩:=way_wo (za HI) (za HWay) (za HAE).symm ha h2
          go_roundg (r.hs.length)
          case measure=>have:=za HK; simp [Tr.hs] at this; omega
          case rel=>exact ⟨_,r,rfl,Nat.le_refl _,hw2,(za HG).trans (za HG3)⟩
        · have h2':decide ((S.nd a).ticks < o.ticks) = false:=by simpa using h2
          have c3:=(za HG3).cell c0 (by simp)
          go_wp2_with fail
          go_ret
          have hG:=(za HG).trans (za HG3)
          exact ⟨a,rfl,S,zcw (za HW2).2.1 hG (by simp),(za HW2).2.2.1.trans (hG.but _),.inl ⟨ham,by omega,rfl⟩⟩
end Go.Proofs.YtdfihaabhichdaaGreat
