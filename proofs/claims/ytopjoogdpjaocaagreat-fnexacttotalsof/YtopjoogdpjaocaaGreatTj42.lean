/-
  A command done on a book, by the model, whichever way it goes: put together.
-/
import Derived.Test.YtopjoogdpjaocaaGreatTj30
import Derived.Test.YtopjoogdpjaocaaGreatTj38
import Derived.Test.YtopjoogdpjaocaaGreatTj39
import Derived.Test.YtopjoogdpjaocaaGreatTj40
import Derived.Test.YtopjoogdpjaocaaGreatTj41
import Derived.Laws.BitsAllLaws
import Derived.Laws.Bits64
import Derived.Lib.Zigzag
import Derived.RowKit
import Derived.Recover
import Derived.Laws.Pointers
import Derived.Stop.Asserts
import Derived.LaidEql
import Derived.RowKitTokens
set_option linter.unusedVariables false
set_option maxHeartbeats 6400000
set_option maxRecDepth 100000
namespace Go.Proofs.YtopjoogdpjaocaaGreat
open Go.RowKit
theorem l04Step_any (next:Int) (vb:Value) (l:List Od) (c:Cm) (w:World) (hr:RdR Od.vs 6 w vb l) (hs:SlOk vb) (hg:GoodL l) (hsd:∀ x ∈ l,x.side = 1 ∨ x.side = 2) (h0:0 ≤ next) (h1:next ≤ 1000000) (ht:c.g.size ≤ maxLen) :
  Calls Tryz.prog 22 #[.agg #[.int .i64 next,vb],cmV c] w fun e w'=>∃ vq vg,e = .returned (.tuple #[.agg #[.int .i64 (stN next l c),vq],vg])∧ORow w' w.heap.size vq (stL next l c)∧ERow w' w.heap.size vg (stE next l c)∧Below w.heap.size w w':=by
 by_cases hrr:refR next l c = 0
 ·rcases zbG hrr with hk | hk | hk | hk
  ·exact l04Step_a next vb l c w ⟨hrr,hk⟩ hr hs hg hsd h0 h1 ht
  ·exact l04Step_c next vb l c w ⟨hrr,hk⟩ hr hs hg hsd h0 h1 ht
  ·exact l04Step_d next vb l c w ⟨hrr,hk⟩ hr hs hg hsd h0 h1 ht
  ·exact l04Step_y next vb l c w ⟨hrr,hk⟩ hr hs hg hsd h0 h1 ht
 ·exact l04Step_r next vb l c w hrr hr hs hg hsd h0 h1 ht

theorem look_only {d i:Nat}:∀ {ks:List (Nat × Nat)} {j:Nat},ks.lookup j = some d→ks.all (fun p=>p.2 != d || p.1 == i) = true→j = i
 | [],_,h,_=>by cases h
 | (a,b) :: r,j,h,hall=>by
  rw [List.lookup_cons] at h
  simp only [List.all_cons,Bool.and_eq_true] at hall
  by_cases e:j = a
  ·subst e
   simp at h
   subst h
   have:=hall.1
   simp at this
   exact this
  ·have:(j == a) = false:=by rw [beq_eq_false_iff_ne]; exact e
   rw [this] at h
   exact look_only h hall.2
theorem hit_len {l:List Od} {k:Nat} {o:Od} {q:Int}:(zau l k o q).length ≤ l.length:=by
 rw [zau]
 split
 ·simp only [List.length_append,List.length_take,List.length_drop]; omega
 ·simp
theorem stL_len {next:Int} {l:List Od} {c:Cm} (hg:GoodL l):(stL next l c).length ≤ 100:=by
 have hl:=hg.len
 rw [stL]
 split
 ·next hr =>
  split
  ·next hk =>
   have hq:=zbx hr hk
   have h1:=(zba (c:=c) (id:=next) 21 l c.q [] hg (by omega) hq.2).1.len
   rw [accL]
   split
   ·simp; omega
   ·omega
  ·split
   ·split
    ·have:=@hit_len l (plc l c.i).toNat; rename_i o _; have:=@hit_len l (plc l c.i).toNat o o.left; omega
    ·omega
   ·split
    ·split
     ·simp; omega
     ·omega
    ·exact Nat.le_trans (List.length_filter_le _ _) (by omega)
 ·omega
theorem stE_len {next:Int} {l:List Od} {c:Cm} (hg:GoodL l):(stE next l c).length ≤ 100:=by
 have hl:=hg.len
 rw [stE]
 split
 ·split
  ·have h1:=zcb (c:=c) (id:=next) 21 l c.q []
   rw [accE]
   simp only [List.length_append,List.length_cons,List.length_nil] at h1 ⊢
   split <;> simp <;> omega
  ·split
   ·split <;> simp
   ·split
    ·simp
    ·have h1:(l.filter dyB).length ≤ 20:=Nat.le_trans (List.length_filter_le _ _) hl
     simp only [List.length_cons,List.length_map]; omega
 ·simp
section
variable {vs:List Value} {ks:List (Nat × Nat)} {S:Nat} {n N rc:Int} {l L:List Od} {E:List Ev} {p:Prop} {W W':World} {j d:Nat} {v u:Value}
end
theorem rg_write2 {base W W':World} {k:Nat} {D:Prop→World→Nat→Value→Prop} {x:List Bool} {f:Nat→Value} (hb:Below base.heap.size base W') (h:∀ j,x[j]? = some true→D (x[k]? = some true) W j (f j)) (hk:x[k]? = some false) (hm:∀ j,j ≠ k→x[j]? = some true→D False W j (f j)→D True W' j (f j)) (hv:D True W' k (f k)) :
  Below base.heap.size base W'∧∀ j,(x.set k true)[j]? = some true→D ((x.set k true)[k]? = some true) W' j (f j):=by
 have e:((x.set k true)[k]? = some true) = True:=by
  rw [List.getElem?_set_self (List.getElem?_eq_some_iff.1 hk).1]; simp
 refine ⟨hb,fun j hj=>?_⟩
 rw [e]
 by_cases hji:j = k
 ·subst hji; exact hv
 ·rw [List.getElem?_set_ne (fun e=>hji e.symm)] at hj
  refine hm j hji hj ?_
  have:=h j hj
  rw [hk] at this
  simpa using this
def DP (vs:List Value) (ks:List (Nat × Nat)) (S:Nat) (n N:Int) (l L:List Od) (E:List Ev) (p:Prop) (W:World) (j:Nat) (v:Value):Prop :=
 match ks.lookup j with
 | none=>∀ u,vs[j]? = some u→v = u
 | some 1=>¬ p→∃ ad cp,v = .agg #[.int .i64 n,.slice (some ad) l.length cp]∧RdR Od.vs 6 W (.slice (some ad) l.length cp) l
 | some 2=>∃ aq cq ag cg,v = .tuple #[.agg #[.int .i64 N,.slice aq L.length cq],.slice ag E.length cg]∧ORow W S (.slice aq L.length cq) L∧ERow W S (.slice ag E.length cg) E
 | some 3=>∃ aq cq,v = .agg #[.int .i64 N,.slice aq L.length cq]∧ORow W S (.slice aq L.length cq) L
 | some 4=>∃ ag cg,v = .slice ag E.length cg∧ERow W S (.slice ag E.length cg) E
 | some 5=>∃ b,v = .pointer (some ⟨b,0,none⟩)∧S ≤ b∧b < W.heap.size∧W.there b 0 2∧(∃ cur,W.heap[b]? = some (.cells cur 46 (0,0)))∧(p→∃ aq cq,W.rangeAt b 0 [.int .i64 N,.slice aq L.length cq]∧ORow W S (.slice aq L.length cq) L)
 | some _=>True
section
variable {vs:List Value} {ks:List (Nat × Nat)} {S:Nat} {n N:Int} {l L:List Od} {E:List Ev} {p:Prop} {W W':World} {j d:Nat} {v u:Value}
theorem dp_val (h:DP vs ks S n N l L E p W j v) (hk:ks.lookup j = none) (hu:vs[j]? = some u):v = u:=by
 rw [DP,hk] at h; exact h u hu
theorem dp_mkv (hk:ks.lookup j = none) (hu:vs[j]? = some v):DP vs ks S n N l L E p W j v:=by
 rw [DP,hk]; intro u h; rw [hu] at h; cases h; rfl
theorem dp_2 (h:DP vs ks S n N l L E p W j v) (hk:ks.lookup j = some 2):∃ aq cq ag cg,v = .tuple #[.agg #[.int .i64 N,.slice aq L.length cq],.slice ag E.length cg]∧ORow W S (.slice aq L.length cq) L∧ERow W S (.slice ag E.length cg) E:=by
 rw [DP,hk] at h; exact h
theorem dp_mk2 (hk:ks.lookup j = some 2) (h:∃ aq cq ag cg,v = .tuple #[.agg #[.int .i64 N,.slice aq L.length cq],.slice ag E.length cg]∧ORow W S (.slice aq L.length cq) L∧ERow W S (.slice ag E.length cg) E):DP vs ks S n N l L E p W j v:=by
 rw [DP,hk]; exact h
theorem dp_3 (h:DP vs ks S n N l L E p W j v) (hk:ks.lookup j = some 3):∃ aq cq,v = .agg #[.int .i64 N,.slice aq L.length cq]∧ORow W S (.slice aq L.length cq) L:=by
 rw [DP,hk] at h; exact h
theorem dp_mk3 (hk:ks.lookup j = some 3) (h:∃ aq cq,v = .agg #[.int .i64 N,.slice aq L.length cq]∧ORow W S (.slice aq L.length cq) L):DP vs ks S n N l L E p W j v:=by
 rw [DP,hk]; exact h
theorem dp_4 (h:DP vs ks S n N l L E p W j v) (hk:ks.lookup j = some 4):∃ ag cg,v = .slice ag E.length cg∧ERow W S (.slice ag E.length cg) E:=by
 rw [DP,hk] at h; exact h
theorem dp_mk4 (hk:ks.lookup j = some 4) (h:∃ ag cg,v = .slice ag E.length cg∧ERow W S (.slice ag E.length cg) E):DP vs ks S n N l L E p W j v:=by
 rw [DP,hk]; exact h
theorem dp_5 (h:DP vs ks S n N l L E p W j v) (hk:ks.lookup j = some 5):∃ b,v = .pointer (some ⟨b,0,none⟩)∧S ≤ b∧b < W.heap.size∧W.there b 0 2∧(∃ cur,W.heap[b]? = some (.cells cur 46 (0,0)))∧(p→∃ aq cq,W.rangeAt b 0 [.int .i64 N,.slice aq L.length cq]∧ORow W S (.slice aq L.length cq) L):=by
 rw [DP,hk] at h; exact h
theorem dp_mk5 (hk:ks.lookup j = some 5) (hp:¬ p) (hS:S ≤ W.heap.size):DP vs ks S n N l L E p (W.alloc (Obj.cells #[.int .i64 0,.slice none 0 0] 46)) j (.pointer (some ⟨W.heap.size,0,none⟩)):=by
 rw [DP,hk]; exact ⟨W.heap.size,rfl,hS,by rw [ze]; omega,zw W [.int .i64 0,.slice none 0 0] _,⟨_,heap_alloc_new W _⟩,fun h=>absurd h hp⟩
theorem dp_mk9 (hk:ks.lookup j = some 9):DP vs ks S n N l L E p W j v:=by rw [DP,hk]; trivial
theorem dp_grow:∀ p W W' j v,Below W.heap.size W W'→DP vs ks S n N l L E p W j v→DP vs ks S n N l L E p W' j v:=by
 intro p W W' j v hb h
 unfold DP at h ⊢
 split
 ·next hk=>rw [hk] at h; exact h
 ·next hk=>rw [hk] at h; intro hp; obtain ⟨ad,cp,h1,h2⟩:=h hp; exact ⟨ad,cp,h1,zl h2 hb (Nat.le_refl _)⟩
 ·next hk=>rw [hk] at h; obtain ⟨aq,cq,ag,cg,h1,h2,h3⟩:=h; exact ⟨aq,cq,ag,cg,h1,zk h2 hb,zI h3 hb⟩
 ·next hk=>rw [hk] at h; obtain ⟨aq,cq,h1,h2⟩:=h; exact ⟨aq,cq,h1,zk h2 hb⟩
 ·next hk=>rw [hk] at h; obtain ⟨ag,cg,h1,h2⟩:=h; exact ⟨ag,cg,h1,zI h2 hb⟩
 ·next hk=>rw [hk] at h; obtain ⟨b,h1,h2,h3,h4,⟨cur,h5⟩,h6⟩:=h; exact ⟨b,h1,h2,Nat.lt_of_lt_of_le h3 hb.size,zf h4 hb h3,⟨cur,(hb.block b h3).trans h5⟩,fun hp=>by obtain ⟨aq,cq,h7,h8⟩:=h6 hp; exact ⟨aq,cq,zb h7 hb h3,zk h8 hb⟩⟩
 ·trivial
theorem dp_store {b:Nat} {aq:Option Addr} {cq:Nat} (hS:S ≤ b) (hth:W.there b 0 2) (hlt:b < W.heap.size) (hbx:∃ cur,W.heap[b]? = some (.cells cur 46 (0,0))) (ho:ORow W S (.slice aq L.length cq) L) (h5:ks.lookup j = some 5→v = .pointer (some ⟨b,0,none⟩)) (h:DP vs ks S n N l L E False W j v):DP vs ks S n N l L E True (W.setCells b 0 [.int .i64 N,.slice aq L.length cq]) j v:=by
 have hO:∀ {v L},ORow W S v L→ORow (W.setCells b 0 [.int .i64 N,.slice aq L.length cq]) S v L:=fun h=>zap (zj h hbx (by decide)) _ _ _ h
 have hO':∀ {v:Value} {L':List Od},ORow W S v L'→ORow (W.setCells b 0 [.int .i64 N,.slice aq L.length cq]) S v L':=fun h=>zap (zj h hbx (by decide)) _ _ _ h
 have hE:∀ {v:Value} {E':List Ev},ERow W S v E'→ERow (W.setCells b 0 [.int .i64 N,.slice aq L.length cq]) S v E':=fun h=>zap (zj h hbx (by decide)) _ _ _ h
 unfold DP at h ⊢
 split
 ·next hk=>rw [hk] at h; exact h
 ·next hk=>intro hp; exact absurd trivial hp
 ·next hk=>rw [hk] at h; obtain ⟨aq,cq,ag,cg,h1,h2,h3⟩:=h; exact ⟨aq,cq,ag,cg,h1,hO' h2,hE h3⟩
 ·next hk=>rw [hk] at h; obtain ⟨aq,cq,h1,h2⟩:=h; exact ⟨aq,cq,h1,hO' h2⟩
 ·next hk=>rw [hk] at h; obtain ⟨ag,cg,h1,h2⟩:=h; exact ⟨ag,cg,h1,hE h2⟩
 ·next hk =>
  refine ⟨b,h5 hk,hS,by rw [zS]; exact hlt,World.there_setCells hth _ _ _,?_,fun _=>⟨aq,cq,World.rangeAt_setCells_same W b 0 _ (fun j hj=>hth j hj),hO' ho⟩⟩
  obtain ⟨cur,hc⟩:=hbx
  exact kind_setC W b _ 0 hc
 ·trivial
end
theorem grs_rd {W:World} {B:Nat} {gv:Value} {gs:List Value} {gl:List (List Ev)} (hg:GRow W B gv gs) (hl:gs.length = gl.length) (he:∀ (i:Nat) (g:Value) (es:List Ev),gs[i]? = some g→gl[i]? = some es→ERow W B g es) (hn:gl.length ≤ 1000) (hm:∀ es ∈ gl,es.length ≤ 1000):RdG W gv gl:=by
 rcases hg.2 with ⟨e,h0⟩ | ⟨g',cap,cur,e,hb,hgg,h4,h5,h6,h7⟩
 ·refine ⟨none,0,?_,by omega,fun hne=>absurd (List.length_eq_zero_iff.1 (by omega)) hne⟩
  have:gl.length = 0:=by omega
  rw [e,this]
 ·refine ⟨some ⟨g',0,none⟩,cap,by rw [e,hl],by omega,fun _=>⟨g',0,rfl,(Array.getElem?_eq_some_iff.1 hgg).1,fun i es hi=>?_⟩⟩
  have hlt:i < gs.length:=by rw [hl]; exact (List.getElem?_eq_some_iff.1 hi).1
  obtain ⟨g,hg1⟩:∃ g,gs[i]? = some g:=⟨_,List.getElem?_eq_getElem hlt⟩
  refine ⟨g,?_,zcp (zaX Ev.len (by have:=hm es (List.mem_of_getElem? hi); omega) (he i g es hg1 hi))⟩
  rw [cell_of_row W g' (0 + i) cur _ (0,0) hgg]
  have h8:=congrArg (fun l=>l[i]?) h7
  simp [hg1,List.getElem?_take] at h8
  simpa using h8.2
theorem t8c {W:World} {b:Nat} {v0 v1 v2 v3 v4 v5 v6 v7:Value} (h:Bx W b [v0,v1,v2,v3,v4,v5,v6,v7]):W.cell? ⟨b,0,none⟩ = some v0∧W.cell? ⟨b,1,none⟩ = some v1∧W.cell? ⟨b,2,none⟩ = some v2∧W.cell? ⟨b,3,none⟩ = some v3∧W.cell? ⟨b,4,none⟩ = some v4∧W.cell? ⟨b,5,none⟩ = some v5∧W.cell? ⟨b,6,none⟩ = some v6∧W.cell? ⟨b,7,none⟩ = some v7 :=
 ⟨zd h 0 rfl,zd h 1 rfl,zd h 2 rfl,zd h 3 rfl,zd h 4 rfl,zd h 5 rfl,zd h 6 rfl,zd h 7 rfl⟩
theorem zao {B b:Nat} {w W:World} (h:Below B w W) (hb:B ≤ b) (vs:List Value):Below B w (W.setCells b 0 vs):=zm b hb vs 0 W h
def ttF (gs:List (List Ev)):Tot × Int :=
 if cntF gs.length ≠ 0 then (tot0,cntF gs.length) else match tolL gs with
 | none=>(tot0,3)
 | some ts=>if gsB (rsF ts).g gs = true then ((rsF ts).t,0) else (tot0,8)
def totV (t:Tot):Value:=.agg #[.int .i64 t.gr,.int .i64 t.ac,.int .i64 t.rf,.int .i64 t.tr,.int .i64 t.vo,.int .i64 t.no,.int .i64 t.li,.int .i64 t.le]
theorem rs_few (cs:List Cm) (h:cs.length ≤ 200):(rsF cs).g.length = cs.length∧∀ es ∈ (rsF cs).g,es.length ≤ 1000:=by
 have hg:(rsF cs).g = (runS cs).g:=by rw [rsF,if_pos h]
 have hl:(runS cs).g.length = cs.length:=(run_inv cs h).2.2.2
 rw [hg]
 refine ⟨hl,fun es he=>?_⟩
 obtain ⟨i,hi⟩:=List.getElem?_of_mem he
 have hlt:=(List.getElem?_eq_some_iff.1 hi).1
 obtain ⟨c,h1,h2⟩:=run_group cs cs.length (Nat.le_refl _) i (by omega)
 rw [List.take_of_length_le (Nat.le_refl _),hi] at h2
 obtain rfl:=Option.some.inj h2
 have:=stE_lenT (next:=(runS (cs.take i)).n) (c:=c) (run_take cs h i (by omega)).1.good
 omega
set_option maxRecDepth 100000 in
set_option maxHeartbeats 1600000 in
theorem implTotalsOf_any (vg:Value) (gs:List (List Ev)) (w:World) (hr:RdG w vg gs) (htg:∀ g ∈ gs,∀ e ∈ g,e.cmd.g.size ≤ maxLen) :
  Calls Tryz.prog 7 #[vg] w fun e w'=>e = .returned (.tuple #[totV (ttF gs).1,.int .i64 (ttF gs).2])∧Below w.heap.size w w':=by
 have HR:=hide hr
 have HTG:=hide htg
 obtain ⟨ag,cg,rfl,hln,-⟩:=hr
 have HT0:=hide (zaK w [.int .i64 0,.int .i64 0,.int .i64 0,.int .i64 0,.int .i64 0,.int .i64 0,.int .i64 0,.int .i64 0] 25)
 have HB0:Hid (Below w.heap.size w (w.alloc (Obj.cells #[.int .i64 0,.int .i64 0,.int .i64 0,.int .i64 0,.int .i64 0,.int .i64 0,.int .i64 0,.int .i64 0] 25))):=(Below.refl _ _).alloc (Nat.le_refl _) _
 have hs0:(w.alloc (Obj.cells #[.int .i64 0,.int .i64 0,.int .i64 0,.int .i64 0,.int .i64 0,.int .i64 0,.int .i64 0,.int .i64 0] 25)).heap.size = w.heap.size + 1:=ze _ _
 have HF:=hide (ttF.eq_1 gs)
 generalize ttF gs = R at HF ⊢
 clear htg
 go_enter Tryz.func7,Tryz.ntmps7
 go_wp2_with fail
 generalize (w.alloc (Obj.cells #[.int .i64 0,.int .i64 0,.int .i64 0,.int .i64 0,.int .i64 0,.int .i64 0,.int .i64 0,.int .i64 0] 25)) = W0 at HT0 HB0 hs0 ⊢
 have hs0':w.heap.size < W0.heap.size:=by omega
 clear hs0
 refine (zch gs.length hln W0).mono ?_
 rintro e w1 ⟨rfl,rfl⟩
 by_cases hc:cntF gs.length = 0
 ·have hg200:=cntF_zero.1 hc
  rw [hc] at HF ⊢
  rw [if_neg (by decide)] at HF
  go_wp2_with fail
  refine (toldCmds_any _ gs w1 (zav (za HR) (za HB0) (Nat.le_refl _)) (by omega)).mono ?_
  rintro e w2 (⟨ts,v2,hto,rfl,hown,hb2⟩ | ⟨hto,rfl,hb2⟩)
  ·have HLT:=hide (tol_len hto)
   obtain ⟨ao,co,rfl⟩:=zbC hown
   have HRC:Hid (RdR Cm.vs 8 w2 (.slice ao ts.length co) ts):=zcp (zaX Cm.len (by have:=za HLT; omega) hown)
   have HTS:Hid (∀ c ∈ ts,c.g.size ≤ maxLen):=tol_size hto (za HTG)
   have HB2:=hide ((za HB0).trans (hb2.mono (za HB0).size))
   have HT2:=hide (zP (za HT0) hb2 hs0')
   have hcf:cntF ts.length = 0:=by rw [za HLT]; exact hc
   have HIM:=hide (fun W hW=>implRunScript_any (.slice ao ts.length co) ts W hW (za HTS))
   rw [hto] at HF
   simp only [hcf] at HF HIM
   obtain ⟨hf1,hf2⟩:=rs_few ts (by have:=za HLT; omega)
   have hs2:w.heap.size < w2.heap.size:=Nat.lt_of_lt_of_le hs0' hb2.size
   generalize rsF ts = F at HF HIM hf1 hf2
   have HF1:=hide hf1
   have HF2:=hide hf2
   clear hown hb2 hcf hto hc hf1 hf2 HB0 HT0 HTG HTS
   go_wp2_with fail
   refine (za HIM w2 (za HRC)).mono ?_
   rintro e w3 ⟨gv,vq,rfl,hgr,hor,hb3⟩
   obtain ⟨gs2,hg1,hg2,hg3,-⟩:=hgr.ex
   have hrg:=grs_rd hg1 hg2 hg3 (by rw [za HF1,za HLT]; omega) (za HF2)
   obtain ⟨ag2,cg2,rfl,-⟩:=id hrg
   obtain ⟨aq,cq,rfl⟩:=zbC hor
   have hal:Below w3.heap.size w3 (w3.alloc (Obj.cells #[.slice ag2 F.g.length cg2,.int .i64 F.n,.slice aq F.l.length cq,.int .i64 F.t.gr,.int .i64 F.t.ac,.int .i64 F.t.rf,.int .i64 F.t.tr,.int .i64 F.t.vo,.int .i64 F.t.no,.int .i64 F.t.li,.int .i64 F.t.le] 48)):=(Below.refl _ _).alloc (Nat.le_refl _) _
   have hb34:=hb3.trans (hal.mono hb3.size)
   have HB4:=hide ((za HB2).trans (hb34.mono (za HB2).size))
   have HT4:=hide (zP (za HT2) hb34 hs2)
   have HX4:=hide (zaK w3 [.slice ag2 F.g.length cg2,.int .i64 F.n,.slice aq F.l.length cq,.int .i64 F.t.gr,.int .i64 F.t.ac,.int .i64 F.t.rf,.int .i64 F.t.tr,.int .i64 F.t.vo,.int .i64 F.t.no,.int .i64 F.t.li,.int .i64 F.t.le] 48)
   have HG4:=hide (zav hrg hal (Nat.le_refl _))
   have HR4:=hide (zav (za HR) (za HB4) (Nat.le_refl _))
   have hs34:w3.heap.size < (w3.alloc (Obj.cells #[.slice ag2 F.g.length cg2,.int .i64 F.n,.slice aq F.l.length cq,.int .i64 F.t.gr,.int .i64 F.t.ac,.int .i64 F.t.rf,.int .i64 F.t.tr,.int .i64 F.t.vo,.int .i64 F.t.no,.int .i64 F.t.li,.int .i64 F.t.le] 48)).heap.size:=by simp
   have hs24:w.heap.size < w3.heap.size:=Nat.lt_of_lt_of_le hs2 hb3.size
   clear hgr hor hb3 hal hb34 hg1 hg2 hg3 hrg HRC HIM HB2 HT2 HF1 HF2
   have x0:=zd (za HX4) 0 rfl
   go_wp2_with fail
   generalize (w3.alloc (Obj.cells #[.slice ag2 F.g.length cg2,.int .i64 F.n,.slice aq F.l.length cq,.int .i64 F.t.gr,.int .i64 F.t.ac,.int .i64 F.t.rf,.int .i64 F.t.tr,.int .i64 F.t.vo,.int .i64 F.t.no,.int .i64 F.t.li,.int .i64 F.t.le] 48)) = W4 at HB4 HT4 HX4 HG4 HR4 hs34 x0 ⊢
   refine (eqFuncG_any _ _ F.g gs W4 (za HG4) (za HR4)).mono ?_
   rintro e w5 ⟨rfl,hb5⟩
   have HB5:=hide ((za HB4).trans (hb5.mono (za HB4).size))
   have HT5:=hide (zP (za HT4) hb5 (Nat.lt_trans hs24 hs34))
   have HX5:=hide (zP (za HX4) hb5 hs34)
   clear hb5 HB4 HT4 HX4 HG4 HR4 x0
   cases hgb:gsB F.g gs
   ·have HE:=(za HF).trans (if_neg (by rw [hgb]; decide))
    subst HE
    clear HF
    obtain ⟨t0,t1,t2,t3,t4,t5,t6,t7⟩:=t8c (za HT5)
    have z0:=zg (za HT5) 0 (by show 0 < 8; omega)
    have z1:=zg (za HT5) 1 (by show 1 < 8; omega)
    have z2:=zg (za HT5) 2 (by show 2 < 8; omega)
    have z3:=zg (za HT5) 3 (by show 3 < 8; omega)
    have z4:=zg (za HT5) 4 (by show 4 < 8; omega)
    have z5:=zg (za HT5) 5 (by show 5 < 8; omega)
    have z6:=zg (za HT5) 6 (by show 6 < 8; omega)
    have z7:=zg (za HT5) 7 (by show 7 < 8; omega)
    have HEN:=hide (za HB5)
    go_wp2_with fail
    have HSC:Hid (Bx (w5.setCells w.heap.size 0 [.int .i64 0,.int .i64 0,.int .i64 0,.int .i64 0,.int .i64 0,.int .i64 0,.int .i64 0,.int .i64 0]) w.heap.size [.int .i64 0,.int .i64 0,.int .i64 0,.int .i64 0,.int .i64 0,.int .i64 0,.int .i64 0,.int .i64 0]):=zad (za HT5) rfl
    have HEM:Hid (Below w.heap.size w (w5.setCells w.heap.size 0 [.int .i64 0,.int .i64 0,.int .i64 0,.int .i64 0,.int .i64 0,.int .i64 0,.int .i64 0,.int .i64 0])):=zao (za HEN) (Nat.le_refl _) _
    change bodyPost _ _ _ _ _ (w5.setCells w.heap.size 0 [.int .i64 0,.int .i64 0,.int .i64 0,.int .i64 0,.int .i64 0,.int .i64 0,.int .i64 0,.int .i64 0])
    generalize w5.setCells w.heap.size 0 [.int .i64 0,.int .i64 0,.int .i64 0,.int .i64 0,.int .i64 0,.int .i64 0,.int .i64 0,.int .i64 0] = WF at HSC HEM ⊢
    obtain ⟨d0,d1,d2,d3,d4,d5,d6,d7⟩:=t8c (za HSC)
    refine bodyPost_ret (by simp [results,Tryz.results7,go_sem,d0,d1,d2,d3,d4,d5,d6,d7]; try rfl) rfl ?_
    exact ⟨rfl,za HEM⟩
   ·have HE:=(za HF).trans (if_pos hgb)
    subst HE
    have x3:=zd (za HX5) 3 rfl
    have x4:=zd (za HX5) 4 rfl
    have x5:=zd (za HX5) 5 rfl
    have x6:=zd (za HX5) 6 rfl
    have x7:=zd (za HX5) 7 rfl
    have x8:=zd (za HX5) 8 rfl
    have x9:=zd (za HX5) 9 rfl
    have x10:=zd (za HX5) 10 rfl
    clear HF
    obtain ⟨t0,t1,t2,t3,t4,t5,t6,t7⟩:=t8c (za HT5)
    have z0:=zg (za HT5) 0 (by show 0 < 8; omega)
    have z1:=zg (za HT5) 1 (by show 1 < 8; omega)
    have z2:=zg (za HT5) 2 (by show 2 < 8; omega)
    have z3:=zg (za HT5) 3 (by show 3 < 8; omega)
    have z4:=zg (za HT5) 4 (by show 4 < 8; omega)
    have z5:=zg (za HT5) 5 (by show 5 < 8; omega)
    have z6:=zg (za HT5) 6 (by show 6 < 8; omega)
    have z7:=zg (za HT5) 7 (by show 7 < 8; omega)
    have HEN:=hide (za HB5)
    go_wp2_with fail
    have HSC:Hid (Bx (w5.setCells w.heap.size 0 [.int .i64 F.t.gr,.int .i64 F.t.ac,.int .i64 F.t.rf,.int .i64 F.t.tr,.int .i64 F.t.vo,.int .i64 F.t.no,.int .i64 F.t.li,.int .i64 F.t.le]) w.heap.size [.int .i64 F.t.gr,.int .i64 F.t.ac,.int .i64 F.t.rf,.int .i64 F.t.tr,.int .i64 F.t.vo,.int .i64 F.t.no,.int .i64 F.t.li,.int .i64 F.t.le]):=zad (za HT5) rfl
    have HEM:Hid (Below w.heap.size w (w5.setCells w.heap.size 0 [.int .i64 F.t.gr,.int .i64 F.t.ac,.int .i64 F.t.rf,.int .i64 F.t.tr,.int .i64 F.t.vo,.int .i64 F.t.no,.int .i64 F.t.li,.int .i64 F.t.le])):=zao (za HEN) (Nat.le_refl _) _
    change bodyPost _ _ _ _ _ (w5.setCells w.heap.size 0 [.int .i64 F.t.gr,.int .i64 F.t.ac,.int .i64 F.t.rf,.int .i64 F.t.tr,.int .i64 F.t.vo,.int .i64 F.t.no,.int .i64 F.t.li,.int .i64 F.t.le])
    generalize w5.setCells w.heap.size 0 [.int .i64 F.t.gr,.int .i64 F.t.ac,.int .i64 F.t.rf,.int .i64 F.t.tr,.int .i64 F.t.vo,.int .i64 F.t.no,.int .i64 F.t.li,.int .i64 F.t.le] = WF at HSC HEM ⊢
    obtain ⟨d0,d1,d2,d3,d4,d5,d6,d7⟩:=t8c (za HSC)
    refine bodyPost_ret (by simp [results,Tryz.results7,go_sem,d0,d1,d2,d3,d4,d5,d6,d7]; try rfl) rfl ?_
    exact ⟨rfl,za HEM⟩
  ·have HB2:=hide ((za HB0).trans (hb2.mono (za HB0).size))
   have HT2:=hide (zP (za HT0) hb2 hs0')
   rw [hto] at HF
   have HE:R = (tot0,3):=za HF
   subst HE
   clear hb2 HF hto
   obtain ⟨t0,t1,t2,t3,t4,t5,t6,t7⟩:=t8c (za HT2)
   have z0:=zg (za HT2) 0 (by show 0 < 8; omega)
   have z1:=zg (za HT2) 1 (by show 1 < 8; omega)
   have z2:=zg (za HT2) 2 (by show 2 < 8; omega)
   have z3:=zg (za HT2) 3 (by show 3 < 8; omega)
   have z4:=zg (za HT2) 4 (by show 4 < 8; omega)
   have z5:=zg (za HT2) 5 (by show 5 < 8; omega)
   have z6:=zg (za HT2) 6 (by show 6 < 8; omega)
   have z7:=zg (za HT2) 7 (by show 7 < 8; omega)
   have HEN:=hide (za HB2)
   go_wp2_with fail
   have HSC:Hid (Bx (w2.setCells w.heap.size 0 [.int .i64 0,.int .i64 0,.int .i64 0,.int .i64 0,.int .i64 0,.int .i64 0,.int .i64 0,.int .i64 0]) w.heap.size [.int .i64 0,.int .i64 0,.int .i64 0,.int .i64 0,.int .i64 0,.int .i64 0,.int .i64 0,.int .i64 0]):=zad (za HT2) rfl
   have HEM:Hid (Below w.heap.size w (w2.setCells w.heap.size 0 [.int .i64 0,.int .i64 0,.int .i64 0,.int .i64 0,.int .i64 0,.int .i64 0,.int .i64 0,.int .i64 0])):=zao (za HEN) (Nat.le_refl _) _
   change bodyPost _ _ _ _ _ (w2.setCells w.heap.size 0 [.int .i64 0,.int .i64 0,.int .i64 0,.int .i64 0,.int .i64 0,.int .i64 0,.int .i64 0,.int .i64 0])
   generalize w2.setCells w.heap.size 0 [.int .i64 0,.int .i64 0,.int .i64 0,.int .i64 0,.int .i64 0,.int .i64 0,.int .i64 0,.int .i64 0] = WF at HSC HEM ⊢
   obtain ⟨d0,d1,d2,d3,d4,d5,d6,d7⟩:=t8c (za HSC)
   refine bodyPost_ret (by simp [results,Tryz.results7,go_sem,d0,d1,d2,d3,d4,d5,d6,d7]; try rfl) rfl ?_
   exact ⟨rfl,za HEM⟩
 ·have HE:=(za HF).trans (if_pos hc)
  have hcb:(cntF gs.length != 0) = true:=by simpa using hc
  generalize cntF gs.length = cf at HE hcb ⊢
  subst HE
  clear HF hc
  obtain ⟨t0,t1,t2,t3,t4,t5,t6,t7⟩:=t8c (za HT0)
  have z0:=zg (za HT0) 0 (by show 0 < 8; omega)
  have z1:=zg (za HT0) 1 (by show 1 < 8; omega)
  have z2:=zg (za HT0) 2 (by show 2 < 8; omega)
  have z3:=zg (za HT0) 3 (by show 3 < 8; omega)
  have z4:=zg (za HT0) 4 (by show 4 < 8; omega)
  have z5:=zg (za HT0) 5 (by show 5 < 8; omega)
  have z6:=zg (za HT0) 6 (by show 6 < 8; omega)
  have z7:=zg (za HT0) 7 (by show 7 < 8; omega)
  have HEN:=hide (za HB0)
  go_wp2_with fail
  have HSC:Hid (Bx (w1.setCells w.heap.size 0 [.int .i64 0,.int .i64 0,.int .i64 0,.int .i64 0,.int .i64 0,.int .i64 0,.int .i64 0,.int .i64 0]) w.heap.size [.int .i64 0,.int .i64 0,.int .i64 0,.int .i64 0,.int .i64 0,.int .i64 0,.int .i64 0,.int .i64 0]):=zad (za HT0) rfl
  have HEM:Hid (Below w.heap.size w (w1.setCells w.heap.size 0 [.int .i64 0,.int .i64 0,.int .i64 0,.int .i64 0,.int .i64 0,.int .i64 0,.int .i64 0,.int .i64 0])):=zao (za HEN) (Nat.le_refl _) _
  change bodyPost _ _ _ _ _ (w1.setCells w.heap.size 0 [.int .i64 0,.int .i64 0,.int .i64 0,.int .i64 0,.int .i64 0,.int .i64 0,.int .i64 0,.int .i64 0])
  generalize w1.setCells w.heap.size 0 [.int .i64 0,.int .i64 0,.int .i64 0,.int .i64 0,.int .i64 0,.int .i64 0,.int .i64 0,.int .i64 0] = WF at HSC HEM ⊢
  obtain ⟨d0,d1,d2,d3,d4,d5,d6,d7⟩:=t8c (za HSC)
  refine bodyPost_ret (by simp [results,Tryz.results7,go_sem,d0,d1,d2,d3,d4,d5,d6,d7]; try rfl) rfl ?_
  exact ⟨rfl,za HEM⟩
def smCb (a b:Cm):Bool:=(a.k == b.k) && ((a.s == b.s) && ((a.t == b.t) && ((a.l == b.l) && ((a.q == b.q) && ((a.i == b.i) && ((fbit a.p == fbit b.p) && decide (a.g.toList = b.g.toList)))))))
theorem two_boxes (w:World) (xs ys:List Value) (t:TypeId):Bx ((w.alloc (Obj.cells xs.toArray t)).alloc (Obj.cells ys.toArray t)) w.heap.size xs∧Bx ((w.alloc (Obj.cells xs.toArray t)).alloc (Obj.cells ys.toArray t)) (w.heap.size + 1) ys∧Below w.heap.size w ((w.alloc (Obj.cells xs.toArray t)).alloc (Obj.cells ys.toArray t)):=by
 have hs1:(w.alloc (Obj.cells xs.toArray t)).heap.size = w.heap.size + 1:=by simp
 have b1:Below (w.alloc (Obj.cells xs.toArray t)).heap.size (w.alloc (Obj.cells xs.toArray t)) ((w.alloc (Obj.cells xs.toArray t)).alloc (Obj.cells ys.toArray t)):=(Below.refl _ _).alloc (Nat.le_refl _) _
 have h2:=zaK (w.alloc (Obj.cells xs.toArray t)) ys t
 rw [hs1] at h2
 exact ⟨zP (zaK w xs t) b1 (by omega),h2,((Below.refl _ _).alloc (Nat.le_refl _) _).alloc (by omega) _⟩
set_option maxRecDepth 100000 in
set_option maxHeartbeats 3200000 in
theorem l04SameCmd_any (a b:Cm) (w:World) :
  Calls Tryz.prog 24 #[cmV a,cmV b] w fun e w'=>e = .returned (.bool (smCb a b))∧Below w.heap.size w w':=by
 obtain ⟨k,s,t,l,q,i,p,g⟩:=a
 obtain ⟨k2,s2,t2,l2,q2,i2,p2,g2⟩:=b
 have HX:=hide (two_boxes w [.int .i64 k,.int .i64 s,.int .i64 t,.int .i64 l,.int .i64 q,.int .i64 i,.float .f64 p,.string g] [.int .i64 k2,.int .i64 s2,.int .i64 t2,.int .i64 l2,.int .i64 q2,.int .i64 i2,.float .f64 p2,.string g2] 39)
 have HS:Hid (_ = _):=hide (smCb.eq_1 ⟨k,s,t,l,q,i,p,g⟩ ⟨k2,s2,t2,l2,q2,i2,p2,g2⟩)
 generalize smCb ⟨k,s,t,l,q,i,p,g⟩ ⟨k2,s2,t2,l2,q2,i2,p2,g2⟩ = R at HS ⊢
 unfold cmV
 simp only
 go_enter Tryz.func24,Tryz.ntmps24
 go_wp2_with fail
 change Hid (Bx ((w.alloc (Obj.cells #[.int .i64 k,.int .i64 s,.int .i64 t,.int .i64 l,.int .i64 q,.int .i64 i,.float .f64 p,.string g] 39)).alloc (Obj.cells #[.int .i64 k2,.int .i64 s2,.int .i64 t2,.int .i64 l2,.int .i64 q2,.int .i64 i2,.float .f64 p2,.string g2] 39)) w.heap.size [.int .i64 k,.int .i64 s,.int .i64 t,.int .i64 l,.int .i64 q,.int .i64 i,.float .f64 p,.string g]∧Bx ((w.alloc (Obj.cells #[.int .i64 k,.int .i64 s,.int .i64 t,.int .i64 l,.int .i64 q,.int .i64 i,.float .f64 p,.string g] 39)).alloc (Obj.cells #[.int .i64 k2,.int .i64 s2,.int .i64 t2,.int .i64 l2,.int .i64 q2,.int .i64 i2,.float .f64 p2,.string g2] 39)) (w.heap.size + 1) [.int .i64 k2,.int .i64 s2,.int .i64 t2,.int .i64 l2,.int .i64 q2,.int .i64 i2,.float .f64 p2,.string g2]∧Below w.heap.size w ((w.alloc (Obj.cells #[.int .i64 k,.int .i64 s,.int .i64 t,.int .i64 l,.int .i64 q,.int .i64 i,.float .f64 p,.string g] 39)).alloc (Obj.cells #[.int .i64 k2,.int .i64 s2,.int .i64 t2,.int .i64 l2,.int .i64 q2,.int .i64 i2,.float .f64 p2,.string g2] 39))) at HX
 generalize (w.alloc (Obj.cells #[.int .i64 k,.int .i64 s,.int .i64 t,.int .i64 l,.int .i64 q,.int .i64 i,.float .f64 p,.string g] 39)).alloc (Obj.cells #[.int .i64 k2,.int .i64 s2,.int .i64 t2,.int .i64 l2,.int .i64 q2,.int .i64 i2,.float .f64 p2,.string g2] 39) = W at HX ⊢
 obtain ⟨X,Y,HB⟩:=za HX
 have HB:=hide HB
 have x0:=zd X 0 rfl
 have x1:=zd X 1 rfl
 have x2:=zd X 2 rfl
 have x3:=zd X 3 rfl
 have x4:=zd X 4 rfl
 have x5:=zd X 5 rfl
 have x6:=zd X 6 rfl
 have x7:=zd X 7 rfl
 have y0:=zd Y 0 rfl
 have y1:=zd Y 1 rfl
 have y2:=zd Y 2 rfl
 have y3:=zd Y 3 rfl
 have y4:=zd Y 4 rfl
 have y5:=zd Y 5 rfl
 have y6:=zd Y 6 rfl
 have y7:=zd Y 7 rfl
 clear X Y HX
 rcases (show (k == k2) = false ∨ (k == k2) = true∧((s == s2) = false ∨ (s == s2) = true∧((t == t2) = false ∨ (t == t2) = true∧((l == l2) = false ∨ (l == l2) = true∧((q == q2) = false ∨ (q == q2) = true∧((i == i2) = false ∨ (i == i2) = true∧(((fbit p:Int) == fbit p2) = false ∨ ((fbit p:Int) == fbit p2) = true)))))) by cases (k == k2) <;> cases (s == s2) <;> cases (t == t2) <;> cases (l == l2) <;> cases (q == q2) <;> cases (i == i2) <;> cases ((fbit p:Int) == fbit p2) <;> simp) with h0 | ⟨h0,h1 | ⟨h1,h2 | ⟨h2,h3 | ⟨h3,h4 | ⟨h4,h5 | ⟨h5,h6 | h6⟩⟩⟩⟩⟩⟩
 all_goals
  go_quiet ((go_at_call 43; exact Calls.quiet_of_same (bitsS_any _ _)))
  go_wp2_with fail
  go_returns
  exact ⟨by rw [za HS]; simp_all; try (first | (intro h; omega) | (rw [show fbit p = fbit p2 by omega,Bool.eq_iff_iff]; simp)),⟨(za HB).os,(za HB).tape,(za HB).output,(za HB).size,(za HB).block⟩⟩
structure Fc where
 n1:Nat
 n2:Nat
 l:Array Value
def Fc.vs (c:Fc):List Value:=[.func (.func c.n1) #[] c.l,.func (.func c.n2) #[] c.l]
theorem Fc.len (c:Fc):c.vs.length = 2:=rfl


def plcO (o:Nat):Bool:=(1 ≤ o && o ≤ 6) || (9 ≤ o && o ≤ 13)
structure Rdr (B:Nat) (w:World) (v:Value) (k:Int):Prop where
 bytes:w.cell? ⟨B,0,none⟩ = some v
 place:w.cell? ⟨B,1,none⟩ = some (.int .i64 k)
 free:w.frozen? ⟨B,1,none⟩ = false
theorem Rdr.drewN {B:Nat} {w:World} {v:Value} {k:Int} (h:Rdr B w v k) (n:Nat):Rdr B (w.drewN n) v k:=⟨h.1,h.2,h.3⟩
theorem Rdr.step {B:Nat} {w:World} {v:Value} {k:Int} (h:Rdr B w v k) (m:Int):Rdr B (w.setCell ⟨B,1,none⟩ (.int .i64 m)) v m :=
 ⟨by rw [World.cell?_setCell_other _ _ _ _ (zX (by omega))]; exact h.1,World.cell?_setCell_same _ _ _ h.2,by rw [World.frozen?_setCell]; exact h.3⟩
end Go.Proofs.YtopjoogdpjaocaaGreat
namespace Go.Proofs.YtopjoogdpjaocaaGreat
open Go
open Go.RowKit (wrap64)

end Go.Proofs.YtopjoogdpjaocaaGreat
namespace Go.Proofs.YtopjoogdpjaocaaGreat
open Go.RowKit

theorem rdr_below {B C:Nat} {w w':World} {v:Value} {k:Int} (h:Rdr B w v k) (hb:Below C w w') (hB:B < C):Rdr B w' v k :=
 ⟨(hb.cell (p:=⟨B,0,none⟩) hB).trans h.1,(hb.cell (p:=⟨B,1,none⟩) hB).trans h.2,(hb.frozen (p:=⟨B,1,none⟩) hB).trans h.3⟩
def CapOk (v:Value):Prop:=∀ a n c,v = .slice a n c→n ≤ c
end Go.Proofs.YtopjoogdpjaocaaGreat
namespace Go.Proofs.YtopjoogdpjaocaaGreat
open Go.RowKit Go.Extern.Stop Go.Stop Go.Extern
set_option linter.unusedVariables false

def hnd (t:Nat):Value:=.pointer (some ⟨1,t,none⟩)
end Go.Proofs.YtopjoogdpjaocaaGreat
