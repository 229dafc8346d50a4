/-
  Rows of records in memory (slices of structs), those that came in and those that the call made: what they read as, and what stays of them; no function walked.
-/
import Derived.Test.YtfoabgghlnjjoaaGreatRj01
import Derived.Deep.MidRow
import Derived.Handy
import Derived.WalkLawsBesides
namespace Go.Proofs.YtfoabgghlnjjoaaGreat
open Go.RowKit

theorem zb {C:Nat} {w w':World} {b o:Nat} {cs:List Value} (h:w.rangeAt b o cs) (hb:Below C w w') (hC:b < C):w'.rangeAt b o cs :=
  fun j v hv=>(hb.cell (p:=⟨b,o + j,none⟩) hC).trans (h j v hv)
theorem zd {C:Nat} {w w':World} {b o n:Nat} (h:w.there b o n) (hb:Below C w w') (hC:b < C):w'.there b o n :=
  fun j hj=>⟨by rw [hb.cell (p:=⟨b,o + j,none⟩) hC]; exact (h j hj).1,by rw [hb.frozen (p:=⟨b,o + j,none⟩) hC]; exact (h j hj).2⟩
theorem zr {G:Option Nat} {w w':World} {b o:Nat} {cs:List Value} (h:w.rangeAt b o cs) (hg:w.grownBy w' G) (hb:b < w.heap.size) (hne:some b ≠ G):w'.rangeAt b o cs :=
  fun j v hv=>(World.cell?_of_block (a:=⟨b,o + j,none⟩) (hg.block b hb hne)).trans (h j v hv)
theorem zan {G:Option Nat} {w w':World} {b o n:Nat} (h:w.there b o n) (hg:w.grownBy w' G) (hb:b < w.heap.size) (hne:some b ≠ G):w'.there b o n :=
  fun j hj=>⟨by rw [World.cell?_of_block (a:=⟨b,o + j,none⟩) (hg.block b hb hne)]; exact (h j hj).1,by rw [World.frozen?_of_block (a:=⟨b,o + j,none⟩) (hg.block b hb hne)]; exact (h j hj).2⟩
theorem zaa {w w':World} {B:Nat} {G:Option Nat} (h:Below B w w') (hB:w.heap.size ≤ B):w.grownBy w' G :=
  ⟨h.os,h.tape,h.output,h.size,fun k hk _=>h.block k (by omega)⟩
theorem gr_below' {w w':World} {G:Option Nat} {B:Nat} (h:w.grownBy w' G) (hG:∀ g,G = some g→B ≤ g) (hs:B ≤ w.heap.size):Below B w w' :=
  ⟨h.os,h.tape,h.output,h.size,fun k hk=>h.block k (by omega) (fun e=>by have:=hG k e.symm; omega)⟩
section
variable {α:Type} (f:α→List Value) (sz:Nat)

def RdR (w:World) (v:Value) (l:List α):Prop :=
  ∃ (a:Option Addr) (cap:Nat),v = .slice a l.length cap∧l.length ≤ 1073741824 ∧
    (l ≠ []→∃ b off,a = some ⟨b,off,none⟩∧b < w.heap.size∧∀ i c,l[i]? = some c→w.rangeAt b (off + i * sz) (f c))
def OwnR (B:Nat) (w:World) (v:Value) (l:List α):Prop :=
  ∃ (a:Option Addr) (cap:Nat),v = .slice a l.length cap∧l.length ≤ 1073741824 ∧
    (l ≠ []→∃ g,a = some ⟨g,0,none⟩∧B ≤ g∧g < w.heap.size∧(∀ i c,l[i]? = some c→w.rangeAt g (0 + i * sz) (f c))∧w.there g 0 (l.length * sz))
def FillR (n B:Nat) (w wr:World) (done:List α):Prop :=
  B < wr.heap.size∧done.length ≤ n∧(∀ i c,done[i]? = some c→wr.rangeAt B (0 + i * sz) (f c))∧wr.there B 0 (n * sz)∧Below B w wr
variable {f sz}

theorem zaA {B:Nat} {w:World} {v:Value} {l:List α} (h:OwnR f sz B w v l):RdR f sz w v l:=by
  obtain ⟨a,cap,rfl,hl,h⟩:=h
  refine ⟨a,cap,rfl,hl,fun hne=>?_⟩
  obtain ⟨g,rfl,_,h2,h3,_⟩:=h hne
  exact ⟨g,0,rfl,h2,h3⟩
theorem zi {C:Nat} {w w':World} {v:Value} {l:List α} (h:RdR f sz w v l) (hb:Below C w w') (hC:w.heap.size ≤ C):RdR f sz w' v l:=by
  obtain ⟨a,cap,rfl,hl,h⟩:=h
  refine ⟨a,cap,rfl,hl,fun hne=>?_⟩
  obtain ⟨b,off,rfl,h1,h2⟩:=h hne
  exact ⟨b,off,rfl,Nat.lt_of_lt_of_le h1 hb.size,fun i c hc=>zb (h2 i c hc) hb (Nat.lt_of_lt_of_le h1 hC)⟩
theorem zao {B C:Nat} {w w':World} {v:Value} {l:List α} (h:OwnR f sz B w v l) (hb:Below C w w') (hC:w.heap.size ≤ C):OwnR f sz B w' v l:=by
  obtain ⟨a,cap,rfl,hl,h⟩:=h
  refine ⟨a,cap,rfl,hl,fun hne=>?_⟩
  obtain ⟨g,rfl,h0,h1,h2,h3⟩:=h hne
  exact ⟨g,rfl,h0,Nat.lt_of_lt_of_le h1 hb.size,fun i c hc=>zb (h2 i c hc) hb (Nat.lt_of_lt_of_le h1 hC),zd h3 hb (Nat.lt_of_lt_of_le h1 hC)⟩
theorem ownR_grown {B:Nat} {G:Option Nat} {w w':World} {v:Value} {l:List α} (h:OwnR f sz B w v l) (hg:w.grownBy w' G) (hne':l ≠ []→v.ownBlock ≠ G):OwnR f sz B w' v l:=by
  obtain ⟨a,cap,rfl,hl,h⟩:=h
  refine ⟨a,cap,rfl,hl,fun hne=>?_⟩
  obtain ⟨g,rfl,h0,h1,h2,h3⟩:=h hne
  exact ⟨g,rfl,h0,Nat.lt_of_lt_of_le h1 hg.size,fun i c hc=>zr (h2 i c hc) hg h1 (hne' hne),zan h3 hg h1 (hne' hne)⟩
theorem ownR_lt {B:Nat} {w:World} {v:Value} {l:List α} (h:OwnR f sz B w v l) (hne:l ≠ []):∃ g,v.ownBlock = some g∧B ≤ g∧g < w.heap.size:=by
  obtain ⟨a,cap,rfl,hl,h⟩:=h
  obtain ⟨g,rfl,h0,h1,_⟩:=h hne
  exact ⟨g,rfl,h0,h1⟩
theorem zn {B:Nat} {w:World} (b:Nat) (hb:B ≤ b):∀ (vs:List Value) (o:Nat) (wr:World),Below B w wr→Below B w (wr.setCells b o vs)
  | [],_,_,h=>h
  | v :: r,o,wr,h=>by rw [World.setCells]; exact zn b hb r (o + 1) _ (h.setCell (show B ≤ (⟨b,o,none⟩:Addr).block from hb) v)
theorem zv (b:Nat):∀ (vs:List Value) (o:Nat) (wr:World),(wr.setCells b o vs).heap.size = wr.heap.size
  | [],_,_=>rfl
  | v :: r,o,wr=>by rw [World.setCells,zv b r (o + 1)]; simp [World.setCell]
theorem zau {w:World} {g n t:Nat} {cur:Array Value} (hg:w.heap[g]? = some (.cells cur t (0,0))) (hn:n ≤ cur.size):w.there g 0 n:=fun j hj =>
  ⟨by rw [cell_of_row w g (0 + j) cur t (0,0) hg,Array.getElem?_eq_getElem (by omega)]; rfl,by simp [World.frozen?,hg]⟩
theorem fill_made {w w':World} {n e:Nat} {xs:List Value} (h:w'.ownsRow w.heap.size e sz (.slice (some ⟨w.heap.size,0,none⟩) n n) n xs) (hg:w.grownBy w' none):FillR f sz n w.heap.size w w' []:=by
  rcases h.2 with ⟨h0,_⟩ | ⟨g,cap,cur,hv,_,hh,_,_,hcur,_⟩
  · simp at h0
  · simp only [Value.slice.injEq,Option.some.injEq,Addr.mk.injEq,and_true,true_and] at hv
    obtain ⟨rfl,rfl⟩:=hv
    exact ⟨(Array.getElem?_eq_some_iff.1 hh).1,Nat.zero_le _,by simp,zau hh (by omega),(Below.refl _ w).grown hg (Nat.le_refl _) (fun k hk=>by simp at hk)⟩
theorem fill_below {n B C:Nat} {w wr wr':World} {done:List α} (h:FillR f sz n B w wr done) (hb:Below C wr wr') (hC:wr.heap.size ≤ C):FillR f sz n B w wr' done:=by
  obtain ⟨h1,h2,h3,h4,h5⟩:=h
  exact ⟨Nat.lt_of_lt_of_le h1 hb.size,h2,fun i c hc=>zb (h3 i c hc) hb (by omega),zd h4 hb (by omega),h5.trans (hb.mono (by omega))⟩
theorem fill_step {n B:Nat} {w wr:World} {done:List α} (x:α) (h:FillR f sz n B w wr done) (hn:done.length < n) (hf:∀ c,(f c).length = sz):FillR f sz n B w (wr.setCells B (done.length * sz) (f x)) (done ++ [x]):=by
  obtain ⟨h1,h2,h3,h4,h5⟩:=h
  have hle:done.length * sz + sz ≤ n * sz:=by
    have:=Nat.mul_le_mul_right sz (show done.length + 1 ≤ n by omega)
    rw [Nat.add_mul] at this; omega
  refine ⟨by rw [zv]; exact h1,by simp; omega,fun i c hc=>?_,World.there_setCells h4 _ _ _,zn B (Nat.le_refl _) _ _ _ h5⟩
  by_cases hi:i < done.length
  · rw [List.getElem?_append_left hi] at hc
    refine World.rangeAt_setCells_apart (h3 i c hc) _ _ _ (.inr (.inl ?_))
    rw [hf c]
    have:=Nat.mul_le_mul_right sz (show i + 1 ≤ done.length by omega)
    rw [Nat.add_mul] at this; omega
  · have hlen:i < (done ++ [x]).length:=(List.getElem?_eq_some_iff.1 hc).1
    have hi':i = done.length:=by simp at hlen; omega
    subst hi'
    simp only [List.getElem?_append_right (Nat.le_refl _),Nat.sub_self,List.getElem?_cons_zero,Option.some.injEq] at hc
    subst hc
    rw [Nat.zero_add]
    exact World.rangeAt_setCells_same _ _ _ _ (fun j hj=>by
      have:=h4 (done.length * sz + j) (by rw [hf] at hj; omega)
      rw [Nat.zero_add] at this; exact this)
theorem fill_own {n B:Nat} {w wr:World} {l:List α} (h:FillR f sz n B w wr l) (hl:l.length = n) (hn:n ≤ 1073741824):OwnR f sz B wr (.slice (some ⟨B,0,none⟩) n n) l:=by
  obtain ⟨h1,h2,h3,h4,h5⟩:=h
  exact ⟨_,n,by rw [hl],by omega,fun _=>⟨B,rfl,Nat.le_refl _,h1,h3,by rw [hl]; exact h4⟩⟩
theorem fill_there {n B i:Nat} {w wr:World} {done:List α} (h:FillR f sz n B w wr done) (hi:i < n):wr.there B (i * sz) sz:=fun j hj=>by
  have hle:=Nat.mul_le_mul_right sz (show i + 1 ≤ n by omega)
  rw [Nat.add_mul] at hle
  have:=h.2.2.2.1 (i * sz + j) (by omega)
  rw [Nat.zero_add] at this; exact this
theorem flat_get (hf:∀ c,(f c).length = sz):∀ (l:List α) (i j:Nat) (c:α),l[i]? = some c→j < sz→(l.flatMap f)[i * sz + j]? = (f c)[j]?
  | [],_,_,_,h,_=>by simp at h
  | a :: l,0,j,c,h,hj=>by
    simp at h; subst h
    rw [List.flatMap_cons,List.getElem?_append_left (by rw [hf]; omega)]; simp
  | a :: l,i + 1,j,c,h,hj=>by
    simp at h
    rw [List.flatMap_cons,List.getElem?_append_right (by rw [hf,Nat.add_mul]; omega),hf,← flat_get hf l i j c h hj]
    congr 1
    rw [Nat.add_mul]; omega
theorem zM (hf:∀ c,(f c).length = sz):∀ (l:List α),(l.flatMap f).length = l.length * sz
  | []=>by simp
  | a :: l=>by rw [List.flatMap_cons,List.length_append,hf,zM hf l,List.length_cons,Nat.add_mul]; omega
theorem zaG {B e:Nat} {w:World} {v:Value} {l:List α} (hf:∀ c,(f c).length = sz) (hl:l.length ≤ 1073741824) (h:w.ownsRow B e sz v l.length (l.flatMap f)):OwnR f sz B w v l:=by
  rcases h.2 with ⟨rfl,h0⟩ | ⟨g,cap,cur,rfl,hb,hg,hcap,_,hcur,htake⟩
  · exact ⟨none,0,by rw [h0],hl,fun hne=>absurd (List.length_eq_zero_iff.1 h0) hne⟩
  · have hle:=Nat.mul_le_mul_right sz hcap
    refine ⟨_,cap,rfl,hl,fun _=>⟨g,rfl,hb,(Array.getElem?_eq_some_iff.1 hg).1,fun i c hc j u hu=>?_,zau hg (by omega)⟩⟩
    have hj:j < sz:=by rw [← hf c]; exact (List.getElem?_eq_some_iff.1 hu).1
    have h2:=flat_get hf l i j c hc hj
    have hlt:i * sz + j < l.length * sz:=by
      have:=Nat.mul_le_mul_right sz (show i + 1 ≤ l.length from (List.getElem?_eq_some_iff.1 hc).1)
      rw [Nat.add_mul] at this; omega
    rw [← htake,List.getElem?_take,if_pos hlt] at h2
    rw [cell_of_row w g _ cur e (0,0) hg,Nat.zero_add]
    simpa using h2.trans hu
end
end Go.Proofs.YtfoabgghlnjjoaaGreat
namespace Go.Proofs.YtfoabgghlnjjoaaGreat
open Go.RowKit
set_option linter.unusedVariables false

structure Cm where
  k:Int
  s:Int
  t:Int
  l:Int
  q:Int
  i:Int
  p:Nat
  g:ByteArray
def Cm.vs (c:Cm):List Value:=[.int .i64 c.k,.int .i64 c.s,.int .i64 c.t,.int .i64 c.l,.int .i64 c.q,.int .i64 c.i,.float .f64 c.p,.string c.g]
theorem Cm.len (c:Cm):c.vs.length = 8:=rfl
theorem zbw {w:World} {b o:Nat} {c:Cm} (h:w.rangeAt b o c.vs) :
    w.cell? ⟨b,o,none⟩ = some (.int .i64 c.k)∧w.cell? ⟨b,o + 1,none⟩ = some (.int .i64 c.s)∧w.cell? ⟨b,o + 2,none⟩ = some (.int .i64 c.t)∧w.cell? ⟨b,o + 3,none⟩ = some (.int .i64 c.l) ∧
    w.cell? ⟨b,o + 4,none⟩ = some (.int .i64 c.q)∧w.cell? ⟨b,o + 5,none⟩ = some (.int .i64 c.i)∧w.cell? ⟨b,o + 6,none⟩ = some (.float .f64 c.p)∧w.cell? ⟨b,o + 7,none⟩ = some (.string c.g) :=
  ⟨h 0 _ rfl,h 1 _ rfl,h 2 _ rfl,h 3 _ rfl,h 4 _ rfl,h 5 _ rfl,h 6 _ rfl,h 7 _ rfl⟩
theorem zB {w:World} {b o n:Nat} (h:w.there b o n) (j:Nat) (hj:j < n):∃ v,w.cell? ⟨b,o + j,none⟩ = some v∧w.frozen? ⟨b,o + j,none⟩ = false:=by
  obtain ⟨v,hv⟩:=Option.isSome_iff_exists.1 (h j hj).1
  exact ⟨v,hv,(h j hj).2⟩
theorem there8 {w:World} {b o:Nat} (h:w.there b o 8) :
    (∃ v,w.cell? ⟨b,o,none⟩ = some v∧w.frozen? ⟨b,o,none⟩ = false)∧(∃ v,w.cell? ⟨b,o + 1,none⟩ = some v∧w.frozen? ⟨b,o + 1,none⟩ = false) ∧
    (∃ v,w.cell? ⟨b,o + 2,none⟩ = some v∧w.frozen? ⟨b,o + 2,none⟩ = false)∧(∃ v,w.cell? ⟨b,o + 3,none⟩ = some v∧w.frozen? ⟨b,o + 3,none⟩ = false) ∧
    (∃ v,w.cell? ⟨b,o + 4,none⟩ = some v∧w.frozen? ⟨b,o + 4,none⟩ = false)∧(∃ v,w.cell? ⟨b,o + 5,none⟩ = some v∧w.frozen? ⟨b,o + 5,none⟩ = false) ∧
    (∃ v,w.cell? ⟨b,o + 6,none⟩ = some v∧w.frozen? ⟨b,o + 6,none⟩ = false)∧(∃ v,w.cell? ⟨b,o + 7,none⟩ = some v∧w.frozen? ⟨b,o + 7,none⟩ = false) :=
  ⟨zB h 0 (by omega),zB h 1 (by omega),zB h 2 (by omega),zB h 3 (by omega),zB h 4 (by omega),zB h 5 (by omega),zB h 6 (by omega),zB h 7 (by omega)⟩
theorem sfl (a:Addr) (x:Nat) (m:Mode) (w:World):(store a (.float .f64 x) m).run Tryz.prog w = stored Tryz.prog w a (.float .f64 x) m:=run_store _ w a _ m rfl
theorem toCmd_any (c:Cm) (w:World) :
    Calls Tryz.prog 10 #[.agg #[.int .i64 c.k,.int .i64 c.s,.int .i64 c.t,.int .i64 c.l,.int .i64 c.q,.int .i64 c.i,.float .f64 c.p,.string c.g]] w fun e w' =>
      e = .returned (.agg #[.int .i64 c.k,.int .i64 c.s,.int .i64 c.t,.int .i64 c.l,.int .i64 c.q,.int .i64 c.i,.float .f64 c.p,.string c.g])∧Below w.heap.size w w':=by
  obtain ⟨k,s,t,l,q,i,p,g⟩:=c
  have hsf:=sfl
  simp only
  go_enter Tryz.func10,Tryz.ntmps10
  go_wp2_with fail
  go_returns
  refine ⟨rfl,?_⟩
  go_grown
end Go.Proofs.YtfoabgghlnjjoaaGreat
namespace Go.Proofs.YtfoabgghlnjjoaaGreat
open Go.RowKit

structure Od where
  id:Int
  side:Int
  ticks:Int
  left:Int
  life:Int
  tag:ByteArray
structure Nd where
  side:Int
  ticks:Int
  qty:Int
  count:Int
  be:Nat
  wo:Nat
  el:Nat
  yo:Nat
structure Qo where
  od:Od
  yg:Nat
structure TS where
  root:Nat
  lc:Nat
  oc:Nat
  nd:Nat→Nd
  qo:Nat→Qo
inductive Tr where
  | nil:Tr
  | node (h:Nat) (l r:Tr):Tr
def zOd:Od:=⟨0,0,0,0,0,⟨#[]⟩⟩
def zNd:Nd:=⟨0,0,0,0,0,0,0,0⟩
def zQo:Qo:=⟨zOd,0⟩
def zTS:TS:=⟨0,0,0,fun _=>zNd,fun _=>zQo⟩
def bt:Bool→Int→Int→Prop
  | true,a,b=>b < a
  | false,a,b=>a < b
theorem bt_irr (s:Bool) (a:Int):¬ bt s a a:=by cases s <;> simp [bt]
theorem bt_trans {s:Bool} {a b c:Int} (h1:bt s a b) (h2:bt s b c):bt s a c:=by cases s <;> simp only [bt] at * <;> omega
theorem bt_total (s:Bool) (a b:Int):bt s a b ∨ a = b ∨ bt s b a:=by cases s <;> simp only [bt] <;> omega
theorem bt_asymm {s:Bool} {a b:Int} (h1:bt s a b):¬ bt s b a:=by cases s <;> simp only [bt] at * <;> omega
instance (s:Bool) (a b:Int):Decidable (bt s a b):=by cases s <;> (unfold bt; infer_instance)
def Tr.hs:Tr→List Nat
  | .nil=>[]
  | .node h l r=>l.hs ++ h :: r.hs
def Rep (nd:Nat→Nd):Tr→Nat→Prop
  | .nil,v=>v = 0
  | .node h l r,v=>v = h∧0 < h∧Rep nd l (nd h).be∧Rep nd r (nd h).wo
theorem zbu {nd nd':Nat→Nd}:∀ {t:Tr} {v:Nat},(∀ h ∈ t.hs,(nd' h).be = (nd h).be∧(nd' h).wo = (nd h).wo)→Rep nd t v→Rep nd' t v
  | .nil,_,_,h=>h
  | .node h l r,v,hc,⟨h1,h2,h3,h4⟩=>by
    have hh:=hc h (by simp [Tr.hs])
    refine ⟨h1,h2,?_,?_⟩
    · rw [hh.1]; exact zbu (fun a ha=>hc a (by simp [Tr.hs,ha])) h3
    · rw [hh.2]; exact zbu (fun a ha=>hc a (by simp [Tr.hs,ha])) h4
theorem rep_nil {nd:Nat→Nd} {t:Tr} (h:Rep nd t 0):t = .nil:=by
  cases t with
  | nil=>rfl
  | node a l r=>obtain ⟨h1,h2,_⟩:=h; omega
theorem rep_node {nd:Nat→Nd} {t:Tr} {v:Nat} (h:Rep nd t v) (hv:v ≠ 0):∃ l r,t = .node v l r∧Rep nd l (nd v).be∧Rep nd r (nd v).wo:=by
  cases t with
  | nil=>exact absurd h hv
  | node a l r=>obtain ⟨rfl,_,h3,h4⟩:=h; exact ⟨l,r,rfl,h3,h4⟩
inductive Cur where
  | root:Cur
  | be (h:Nat):Cur
  | wo (h:Nat):Cur
def TS.rd (S:TS):Cur→Nat
  | .root=>S.root
  | .be h=>(S.nd h).be
  | .wo h=>(S.nd h).wo
def upd {α:Type} (f:Nat→α) (i:Nat) (x:α):Nat→α:=fun j=>if j = i then x else f j
theorem zp {α:Type} (f:Nat→α) (i:Nat) (x:α):upd f i x i = x:=by simp [upd]
theorem zq {α:Type} (f:Nat→α) {i j:Nat} (x:α) (h:j ≠ i):upd f i x j = f j:=by simp [upd,h]
def TS.wr (S:TS) (n:Nat):Cur→TS
  | .root=>{ S with root:=n }
  | .be h=>{ S with nd:=upd S.nd h { S.nd h with be:=n } }
  | .wo h=>{ S with nd:=upd S.nd h { S.nd h with wo:=n } }
abbrev Ctx:=List (Bool × Nat × Tr)
def plug:Ctx→Tr→Tr
  | [],s=>s
  | (true,h,r) :: c,s=>plug c (.node h s r)
  | (false,h,l) :: c,s=>plug c (.node h l s)
def zV:Ctx→Cur
  | []=>.root
  | (true,h,_) :: _=>.be h
  | (false,h,_) :: _=>.wo h
def cl:Ctx→List Nat
  | []=>[]
  | (true,_,_) :: c=>cl c
  | (false,h,l) :: c=>cl c ++ (l.hs ++ [h])
def cr:Ctx→List Nat
  | []=>[]
  | (true,h,r) :: c=>h :: r.hs ++ cr c
  | (false,_,_) :: c=>cr c
theorem zbX:∀ (c:Ctx) (s:Tr),(plug c s).hs = cl c ++ (s.hs ++ cr c)
  | [],s=>by simp [plug,cl,cr]
  | (true,h,r) :: c,s=>by rw [plug,zbX c]; simp [Tr.hs,cl,cr]
  | (false,h,l) :: c,s=>by rw [plug,zbX c]; simp [Tr.hs,cl,cr]
def RepC (nd:Nat→Nd):Ctx→Nat→Nat→Prop
  | [],root,v=>v = root
  | (true,h,r) :: c,root,v=>v = (nd h).be∧0 < h∧Rep nd r (nd h).wo∧RepC nd c root h
  | (false,h,l) :: c,root,v=>v = (nd h).wo∧0 < h∧Rep nd l (nd h).be∧RepC nd c root h
theorem rep_plug {nd:Nat→Nd} {root:Nat}:∀ (c:Ctx) (s:Tr) (v:Nat),RepC nd c root v→Rep nd s v→Rep nd (plug c s) root
  | [],s,v,h,hs=>by rw [← h]; exact hs
  | (true,a,r) :: c,s,v,⟨h1,h2,h3,h4⟩,hs=>rep_plug c (.node a s r) a h4 ⟨rfl,h2,h1 ▸ hs,h3⟩
  | (false,a,l) :: c,s,v,⟨h1,h2,h3,h4⟩,hs=>rep_plug c (.node a l s) a h4 ⟨rfl,h2,h3,h1 ▸ hs⟩
theorem zbH {nd nd':Nat→Nd}:∀ {c:Ctx} {root v:Nat},(∀ h ∈ cl c ++ cr c,(nd' h).be = (nd h).be∧(nd' h).wo = (nd h).wo)→RepC nd c root v→RepC nd' c root v
  | [],_,_,_,h=>h
  | (true,a,r) :: c,root,v,hc,⟨h1,h2,h3,h4⟩=>by
    have ha:=hc a (by simp [cr])
    refine ⟨by rw [ha.1]; exact h1,h2,by rw [ha.2]; exact zbu (fun b hb=>hc b (by simp [cr,hb])) h3,zbH (fun b hb=>hc b ?_) h4⟩
    simp [cl,cr] at hb ⊢; rcases hb with hb | hb <;> simp [hb]
  | (false,a,l) :: c,root,v,hc,⟨h1,h2,h3,h4⟩=>by
    have ha:=hc a (by simp [cl])
    refine ⟨by rw [ha.2]; exact h1,h2,by rw [ha.1]; exact zbu (fun b hb=>hc b (by simp [cl,hb])) h3,zbH (fun b hb=>hc b ?_) h4⟩
    simp [cl,cr] at hb ⊢; rcases hb with hb | hb <;> simp [hb]
theorem rep_wr {S:TS} {c:Ctx} {v n:Nat} (h:RepC S.nd c S.root v) (hd:(cl c ++ cr c).Nodup):RepC (S.wr n (zV c)).nd c (S.wr n (zV c)).root n:=by
  match c,h,hd with
  | [],h,_=>rfl
  | (true,a,r) :: c,⟨h1,h2,h3,h4⟩,hd =>
    simp only [cl,cr] at hd
    rw [List.nodup_append] at hd
    obtain ⟨d1,d2,d3⟩:=hd
    simp only [List.cons_append,List.nodup_cons,List.mem_append,not_or] at d2
    have hne:∀ b,b ∈ r.hs ∨ b ∈ cl c ∨ b ∈ cr c→b ≠ a:=by
      rintro b (hb | hb | hb) rfl
      · exact d2.1.1 hb
      · exact d3 b hb b (by simp) rfl
      · exact d2.1.2 hb
    simp only [zV,TS.wr]
    refine ⟨by simp [upd],h2,?_,?_⟩
    · simp only [zp]
      exact zbu (fun b hb=>by rw [zq _ _ (hne b (.inl hb))]; exact ⟨rfl,rfl⟩) h3
    · exact zbH (fun b hb=>by rw [zq _ _ (hne b (.inr (by simpa using hb)))]; exact ⟨rfl,rfl⟩) h4
  | (false,a,l) :: c,⟨h1,h2,h3,h4⟩,hd =>
    simp only [cl,cr] at hd
    rw [List.nodup_append] at hd
    obtain ⟨d1,d2,d3⟩:=hd
    rw [List.nodup_append] at d1
    obtain ⟨d4,d5,d6⟩:=d1
    rw [List.nodup_append] at d5
    obtain ⟨d7,d8,d9⟩:=d5
    have hne:∀ b,b ∈ l.hs ∨ b ∈ cl c ∨ b ∈ cr c→b ≠ a:=by
      rintro b (hb | hb | hb) rfl
      · exact d9 b hb b (by simp) rfl
      · exact d6 b hb b (by simp) rfl
      · exact d3 b (by simp) b hb rfl
    simp only [zV,TS.wr]
    refine ⟨by simp [upd],h2,?_,?_⟩
    · simp only [zp]
      exact zbu (fun b hb=>by rw [zq _ _ (hne b (.inl hb))]; exact ⟨rfl,rfl⟩) h3
    · exact zbH (fun b hb=>by rw [zq _ _ (hne b (.inr (by simpa using hb)))]; exact ⟨rfl,rfl⟩) h4
structure TI (s:Bool) (S:TS) (t:Tr):Prop where
  rep:Rep S.nd t S.root
  nodup:t.hs.Nodup
  range:∀ h ∈ t.hs,1 ≤ h∧h ≤ S.lc
  len:t.hs.length = S.lc
  sorted:t.hs.Pairwise (fun a b=>bt s (S.nd a).ticks (S.nd b).ticks)
  fresh:∀ h,S.lc < h→S.nd h = zNd
structure Way (s:Bool) (S:TS) (t:Tr) (k:Int) (c:Ctx) (u:Tr):Prop where
  plug:t = plug c u
  repC:RepC S.nd c S.root (S.rd (zV c))
  rep:Rep S.nd u (S.rd (zV c))
  left:∀ a ∈ cl c,bt s (S.nd a).ticks k
  right:∀ a ∈ cr c,bt s k (S.nd a).ticks
theorem way_start {s:Bool} {S:TS} {t:Tr} (h:TI s S t) (k:Int):Way s S t k [] t :=
  ⟨rfl,rfl,h.rep,by simp [cl],by simp [cr]⟩
theorem way_pair {s:Bool} {S:TS} {a:Nat} {l r:Tr} {c:Ctx} (h:(plug c (.node a l r)).hs.Pairwise (fun a b=>bt s (S.nd a).ticks (S.nd b).ticks)) :
    (∀ b ∈ l.hs,bt s (S.nd b).ticks (S.nd a).ticks)∧(∀ b ∈ r.hs,bt s (S.nd a).ticks (S.nd b).ticks):=by
  rw [zbX,Tr.hs] at h
  have h2:=(List.pairwise_append.1 (List.pairwise_append.1 h).2.1).1
  obtain ⟨_,h3,h4⟩:=List.pairwise_append.1 h2
  exact ⟨fun b hb=>h4 b hb a (by simp),(List.pairwise_cons.1 h3).1⟩
theorem way_be {s:Bool} {S:TS} {t:Tr} {k:Int} {c:Ctx} {u:Tr} {a:Nat} (hi:TI s S t) (h:Way s S t k c u) (ha:S.rd (zV c) = a) (h0:a ≠ 0) (hk:bt s k (S.nd a).ticks) :
    ∃ l r,u = .node a l r∧Way s S t k ((true,a,r) :: c) l:=by
  obtain ⟨h1,h2,h3,h4,h5⟩:=h
  rw [ha] at h2 h3
  obtain ⟨l,r,rfl,h6,h7⟩:=rep_node h3 h0
  have hp:=way_pair (by rw [← h1]; exact hi.sorted)
  refine ⟨l,r,rfl,h1,⟨rfl,by omega,h7,h2⟩,h6,h4,fun b hb=>?_⟩
  simp only [cr,List.cons_append,List.mem_cons,List.mem_append] at hb
  rcases hb with rfl | hb | hb
  · exact hk
  · exact bt_trans hk (hp.2 b hb)
  · exact h5 b hb
theorem way_wo {s:Bool} {S:TS} {t:Tr} {k:Int} {c:Ctx} {u:Tr} {a:Nat} (hi:TI s S t) (h:Way s S t k c u) (ha:S.rd (zV c) = a) (h0:a ≠ 0) (hk:bt s (S.nd a).ticks k) :
    ∃ l r,u = .node a l r∧Way s S t k ((false,a,l) :: c) r:=by
  obtain ⟨h1,h2,h3,h4,h5⟩:=h
  rw [ha] at h2 h3
  obtain ⟨l,r,rfl,h6,h7⟩:=rep_node h3 h0
  have hp:=way_pair (by rw [← h1]; exact hi.sorted)
  refine ⟨l,r,rfl,h1,⟨rfl,by omega,h6,h2⟩,h7,fun b hb=>?_,h5⟩
  simp only [cl,List.mem_append,List.mem_cons,List.not_mem_nil,or_false] at hb
  rcases hb with hb | hb | rfl
  · exact h4 b hb
  · exact bt_trans (hp.1 b hb) hk
  · exact hk
theorem way_at {s:Bool} {S:TS} {t:Tr} {k:Int} {c:Ctx} {u:Tr} {a:Nat} (h:Way s S t k c u) (ha:S.rd (zV c) = a) (h0:a ≠ 0):a ∈ t.hs:=by
  obtain ⟨h1,h2,h3,_⟩:=h
  rw [ha] at h3
  obtain ⟨l,r,rfl,_⟩:=rep_node h3 h0
  rw [h1,zbX]; simp [Tr.hs]
def TS.grow (S:TS) (cu:Cur) (sd k:Int):TS :=
  let S1:=S.wr (S.lc + 1) cu
  { S1 with lc:=S.lc + 1,nd:=upd S1.nd (S.lc + 1) { S1.nd (S.lc + 1) with side:=sd,ticks:=k,qty:=0,count:=0 } }
theorem zct (S:TS) (n:Nat) (cu:Cur) (a:Nat):((S.wr n cu).nd a).ticks = (S.nd a).ticks:=by
  cases cu with
  | root=>rfl
  | be h=>simp only [TS.wr,upd]; split <;> simp_all
  | wo h=>simp only [TS.wr,upd]; split <;> simp_all
theorem wr_nd_out (S:TS) (n:Nat) (c:Ctx) (a:Nat) (ha:a ∉ cl c ++ cr c):(S.wr n (zV c)).nd a = S.nd a:=by
  match c,ha with
  | [],_=>rfl
  | (true,b,r) :: c,ha=>simp only [zV,TS.wr]; exact zq _ _ (fun e=>ha (by simp [cl,cr,e]))
  | (false,b,l) :: c,ha=>simp only [zV,TS.wr]; exact zq _ _ (fun e=>ha (by simp [cl,cr,e]))
theorem wr_same (S:TS) (n:Nat) (cu:Cur):(S.wr n cu).lc = S.lc∧(S.wr n cu).oc = S.oc∧(S.wr n cu).qo = S.qo:=by
  cases cu <;> exact ⟨rfl,rfl,rfl⟩
theorem wr_nd_rest (S:TS) (n:Nat) (cu:Cur) (a:Nat):((S.wr n cu).nd a).side = (S.nd a).side∧((S.wr n cu).nd a).qty = (S.nd a).qty∧((S.wr n cu).nd a).count = (S.nd a).count∧((S.wr n cu).nd a).el = (S.nd a).el∧((S.wr n cu).nd a).yo = (S.nd a).yo:=by
  cases cu with
  | root=>exact ⟨rfl,rfl,rfl,rfl,rfl⟩
  | be h=>simp only [TS.wr,upd]; split <;> simp_all
  | wo h=>simp only [TS.wr,upd]; split <;> simp_all
theorem ti_grow {s:Bool} {S:TS} {t:Tr} {k sd:Int} {c:Ctx} {u:Tr} (hi:TI s S t) (h:Way s S t k c u) (h0:S.rd (zV c) = 0) :
    TI s (S.grow (zV c) sd k) (plug c (.node (S.lc + 1) .nil .nil))∧t.hs = cl c ++ cr c∧(∀ a ∈ t.hs,(S.nd a).ticks ≠ k):=by
  obtain ⟨h1,h2,h3,h4,h5⟩:=h
  rw [h0] at h3
  obtain rfl:=rep_nil h3
  have ht:t.hs = cl c ++ cr c:=by rw [h1,zbX]; simp [Tr.hs]
  have hnew:S.lc + 1 ∉ cl c ++ cr c:=by
    rw [← ht]; intro hm; have:=(hi.range _ hm).2; omega
  have hnd:=hi.nodup
  rw [ht] at hnd
  have hz:(S.grow (zV c) sd k).nd (S.lc + 1) = { zNd with side:=sd,ticks:=k }:=by
    show upd _ _ _ _ = _
    rw [zp,wr_nd_out S _ c _ hnew,hi.fresh _ (by omega)]
    rfl
  have hrc:=rep_wr (n:=S.lc + 1) h2 hnd
  have hag:∀ b ∈ cl c ++ cr c,(S.grow (zV c) sd k).nd b = (S.wr (S.lc + 1) (zV c)).nd b:=fun b hb=>zq _ _ (fun e=>hnew (e ▸ hb))
  have hhs:(plug c (.node (S.lc + 1) .nil .nil)).hs = cl c ++ (S.lc + 1) :: cr c:=by rw [zbX]; simp [Tr.hs]
  have htk:∀ b ∈ cl c ++ cr c,((S.grow (zV c) sd k).nd b).ticks = (S.nd b).ticks:=fun b hb=>by rw [hag b hb,zct]
  have hso:=hi.sorted
  rw [ht] at hso
  refine ⟨⟨?_,?_,?_,?_,?_,?_⟩,ht,?_⟩
  · refine rep_plug c _ (S.lc + 1) (zbH (fun b hb=>by rw [hag b hb]; exact ⟨rfl,rfl⟩) hrc) ⟨rfl,by omega,?_,?_⟩ <;> rw [hz] <;> rfl
  · rw [hhs]
    rw [List.nodup_append] at hnd ⊢
    obtain ⟨d1,d2,d3⟩:=hnd
    refine ⟨d1,List.nodup_cons.2 ⟨fun hm=>hnew (by simp [hm]),d2⟩,?_⟩
    intro a ha b hb
    rcases List.mem_cons.1 hb with rfl | hb
    · rintro rfl; exact hnew (by simp [ha])
    · exact d3 a ha b hb
  · rw [hhs]
    intro a ha
    have hlc:(S.grow (zV c) sd k).lc = S.lc + 1:=rfl
    rw [hlc]
    simp only [List.mem_append,List.mem_cons] at ha
    rcases ha with ha | rfl | ha
    · have:=hi.range a (by rw [ht]; simp [ha]); omega
    · omega
    · have:=hi.range a (by rw [ht]; simp [ha]); omega
  · rw [hhs]
    have:=hi.len
    rw [ht] at this
    show _ = S.lc + 1
    simp at this ⊢; omega
  · rw [hhs,List.pairwise_append]
    rw [List.pairwise_append] at hso
    obtain ⟨d1,d2,d3⟩:=hso
    refine ⟨d1.imp_of_mem fun {a b} ha hb hab=>?_,List.pairwise_cons.2 ⟨fun b hb=>?_,d2.imp_of_mem fun {a b} ha hb hab=>?_⟩,fun a ha b hb=>?_⟩
    · rw [htk a (by simp [ha]),htk b (by simp [hb])]; exact hab
    · rw [hz,htk b (by simp [hb])]; exact h5 b hb
    · rw [htk a (by simp [ha]),htk b (by simp [hb])]; exact hab
    · rw [htk a (by simp [ha])]
      rcases List.mem_cons.1 hb with rfl | hb
      · rw [hz]; exact h4 a ha
      · rw [htk b (by simp [hb])]; exact d3 a ha b hb
  · intro h hh
    have hh':S.lc + 1 < h:=hh
    show upd _ _ _ _ = _
    rw [zq _ _ (by omega),wr_nd_out S _ c _ (by rw [← ht]; intro hm; have:=(hi.range _ hm).2; omega),hi.fresh _ (by omega)]
  · intro a ha
    rw [ht,List.mem_append] at ha
    rcases ha with ha | ha
    · intro e; have:=h4 a ha; rw [e] at this; exact bt_irr _ _ this
    · intro e; have:=h5 a ha; rw [e] at this; exact bt_irr _ _ this
end Go.Proofs.YtfoabgghlnjjoaaGreat
