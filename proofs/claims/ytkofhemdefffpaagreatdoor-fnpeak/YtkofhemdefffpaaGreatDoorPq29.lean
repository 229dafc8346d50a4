/-.-/
import Derived.Test.YtkofhemdefffpaaGreatDoorPq10
import Derived.Test.YtkofhemdefffpaaGreatDoorPq14
import Derived.Test.YtkofhemdefffpaaGreatDoorPq26
set_option linter.unusedVariables false
set_option maxHeartbeats 6400000
set_option maxRecDepth 100000
namespace Go.Proofs.YtkofhemdefffpaaGreatDoor
open Go.RowKit
structure Du where
 kind:Int
 id:Int
 other:Int
 qty:Int
 price:Int
def zDu:Du:=⟨0,0,0,0,0⟩
def duV (d:Du):Value:=.agg #[H d.kind,H d.id,H d.other,H d.qty,H d.price]
structure Gr where
 nx:Int
 l:List Od
 bg:Int
 cm:Cm
 tk:Od
def isDy (o:Od):Bool:=o.life==1
def lftD (c:Cm)(t:Od):Du:=if dj c.t=true then⟨4,t.id,0,t.left,0⟩ else⟨5,t.id,0,t.left,0⟩
def takD (l:List Od)(c:Cm)(t:Od):Du:=
 if t.left=0 then zDu else match dv l (othS c.s) with
 | some o=>if dL c o=true then⟨3,t.id,o.id,min t.left o.left,o.ticks⟩ else lftD c t
 | none=>lftD c t
def dayD (l:List Od):Du:=match l.find? isDy with
 | some o=>⟨9,o.id,0,o.left,0⟩
 | none=>zDu
def dueG (g:Gr):Du:=if g.bg=1 then takD g.l g.cm g.tk else if g.bg=8 then dayD g.l else zDu
def dW (e:Ev)(d:Du):Bool:=(e.kind==d.kind)&&((e.id==d.id)&&(e.qty==d.qty))
def leftAt (l:List Od)(id:Int):Int:=match l[(plc l id).toNat]? with|some o=>o.left|none=>0
def df (g:Gr)(e:Ev):Int:=if g.bg≠0 then 3 else if refR g.nx g.l (da e)≠0 then 5 else 0
def dueR (g:Gr)(e:Ev):Int:=if g.bg=0 then 3 else if (dueG g).kind=0 then 8 else if ((dueG g).kind=9\/e.kind=9)/\dW e (dueG g)=false then 14 else 0
def trR (d:Du)(e:Ev):Int:=if ¬ (d.kind=3/\e.id=d.id) then 9 else if e.other≠d.other then 10 else if e.price≠d.price then 11 else if e.qty≠d.qty then 12 else 0
def zK (g:Gr)(e:Ev):Int:=
 if e.kind=1 then(if df g e≠0 then df g e else if e.id=g.nx then 0 else 6)
 else if e.kind=2 then(if g.bg≠0 then 3 else if refR g.nx g.l e.cmd≠0/\refR g.nx g.l e.cmd=e.reason then 0 else 4)
 else if e.kind=6 then(if df g e≠0 then df g e else if e.qty=leftAt g.l e.id then 0 else 7)
 else if e.kind=7 then df g e
 else if e.kind=8 then(if df g e≠0 then df g e else if e.qty=((g.l.filter isDy).length:Int) then 0 else 7)
 else if dueR g e≠0 then dueR g e
 else if e.kind=3 then trR (dueG g) e
 else if e.kind=9 then 0
 else if dW e (dueG g)=true then 0 else 13
def hitI (l:List Od)(id qty:Int):List Od:=match l[(plc l id).toNat]? with|some o=>db l (plc l id).toNat o qty|none=>l
def setI (l:List Od)(id qty:Int):List Od:=match l[(plc l id).toNat]? with|some o=>l.set (plc l id).toNat { o with left:=qty } | none=>l
def begG (g:Gr)(e:Ev):Int:=if g.bg=0 then e.kind else g.bg
def dG (g:Gr)(e:Ev):Gr:=
 if e.kind=1 then⟨g.nx+1,g.l,begG g e,e.cmd,ordO e.cmd e.id⟩
 else if e.kind=3 then⟨g.nx,hitI g.l e.other e.qty,begG g e,g.cm,{ g.tk with left:=g.tk.left-e.qty }⟩
 else if e.kind=4 then⟨g.nx,g.l ++ [g.tk],begG g e,g.cm,{ g.tk with left:=0 }⟩
 else if e.kind=5 then⟨g.nx,g.l,begG g e,g.cm,{ g.tk with left:=0 }⟩
 else if e.kind=6 then⟨g.nx,hitI g.l e.id e.qty,begG g e,g.cm,g.tk⟩
 else if e.kind=7 then⟨g.nx,setI g.l e.id e.qty,begG g e,g.cm,g.tk⟩
 else if e.kind=9 then⟨g.nx,hitI g.l (dueG g).id (dueG g).qty,begG g e,g.cm,g.tk⟩
 else⟨g.nx,g.l,begG g e,g.cm,g.tk⟩
theorem step1 {g:Gr}{e:Ev}(k:e.kind=1):dG g e=⟨g.nx+1,g.l,begG g e,e.cmd,ordO e.cmd e.id⟩:=by simp[dG,k]
theorem step2 {g:Gr}{e:Ev}(k:e.kind=2):dG g e=⟨g.nx,g.l,begG g e,g.cm,g.tk⟩:=by simp[dG,k]
theorem step3 {g:Gr}{e:Ev}(k:e.kind=3):dG g e=⟨g.nx,hitI g.l e.other e.qty,begG g e,g.cm,{ g.tk with left:=g.tk.left-e.qty }⟩:=by simp[dG,k]
theorem step4 {g:Gr}{e:Ev}(k:e.kind=4):dG g e=⟨g.nx,g.l ++ [g.tk],begG g e,g.cm,{ g.tk with left:=0 }⟩:=by simp[dG,k]
theorem step5 {g:Gr}{e:Ev}(k:e.kind=5):dG g e=⟨g.nx,g.l,begG g e,g.cm,{ g.tk with left:=0 }⟩:=by simp[dG,k]
theorem step6 {g:Gr}{e:Ev}(k:e.kind=6):dG g e=⟨g.nx,hitI g.l e.id e.qty,begG g e,g.cm,g.tk⟩:=by simp[dG,k]
theorem step7 {g:Gr}{e:Ev}(k:e.kind=7):dG g e=⟨g.nx,setI g.l e.id e.qty,begG g e,g.cm,g.tk⟩:=by simp[dG,k]
theorem step8 {g:Gr}{e:Ev}(k:e.kind=8):dG g e=⟨g.nx,g.l,begG g e,g.cm,g.tk⟩:=by simp[dG,k]
theorem step9 {g:Gr}{e:Ev}(k:e.kind=9):dG g e=⟨g.nx,hitI g.l (dueG g).id (dueG g).qty,begG g e,g.cm,g.tk⟩:=by simp[dG,k]
def runG:Gr->List Ev->Gr × Int
 | g,[]=>(g,0)
 | g,e::r=>if zK g e=0 then runG (dG g e) r else(g,zK g e)
def gr0 (next:Int)(l:List Od):Gr:=⟨next,l,0,zCm,zOd⟩
structure GI (g:Gr):Prop where
 len:g.l.length<=21
 l0:0<=g.tk.left
 l1:g.tk.left<=1000000
 good:g.bg≠1\/g.tk.left≠0->GoodL g.l
 free:g.bg≠1->g.tk.left=0
 rise:dQ g.l
 start:g.bg=0->0<=g.nx/\g.nx<=1000000/\(∀x∈g.l,x.side=1\/x.side=2)/\∀x∈g.l,x.id<g.nx
 bg:0<=g.bg/\g.bg<=9
 acc:g.bg=1->betB g.cm.s 1 2=true/\prcB g.cm=true/\(g.tk.left≠0->g.tk.side=g.cm.s/\g.tk.ticks=tkS g.cm.p/\∀x∈g.l,x.id<g.tk.id)
theorem fh {e:Ev}(h:okE e=true):1<=e.kind/\e.kind<=9:=by
 unfold okE at h;split at h
 ·simp at h
 ·rename_i hf;unfold fldK at hf
  by_cases Z:e.kind=1
  ·omega
  by_cases Q:e.kind=2
  ·omega
  by_cases I:e.kind=3
  ·omega
  by_cases h4:e.kind=4\/e.kind=5\/e.kind=6\/e.kind=7\/e.kind=9
  ·omega
  by_cases h5:e.kind=8
  ·omega
  simp[Z,Q,I,h4,h5] at hf
theorem okE_new {e:Ev}(h:okE e=true)(E:e.kind=1):e.cmd.k=1/\e.cmd.i=0:=by
 unfold okE at h;split at h
 ·simp at h
 ·split at h
  ·simp at h
  ·simp only[xf,beq_iff_eq] at h;exact⟨h.1,h.2.1⟩
theorem new_ok {next:Int}{l:List Od}{c:Cm}(h:newR next l c=0):betB c.s 1 2=true/\prcB c=true/\betB c.q 1 1000000=true/\betB c.t 1 5=true:=by
 unfold newR at h
 by_cases Z:betB c.s 1 2=false
 ·rw[if_pos Z] at h;omega
 rw[if_neg Z] at h
 by_cases Q:betB c.t 1 5=false
 ·rw[if_pos Q] at h;omega
 rw[if_neg Q] at h
 by_cases I:lifW c=true
 ·rw[if_pos I] at h;omega
 rw[if_neg I] at h
 by_cases h4:prcB c=false
 ·rw[if_pos h4] at h;omega
 rw[if_neg h4] at h
 by_cases h5:betB c.q 1 1000000=false
 ·rw[if_pos h5] at h;omega
 simp only[Bool.not_eq_false] at Z Q h4 h5;exact⟨Z,h4,h5,Q⟩
theorem ref_newG {next:Int}{l:List Od}{c:Cm}(E:c.k=1)(h:refR next l c=0):newR next l c=0:=by
 unfold refR at h;rw[if_pos E] at h;split at h
 ·exact h
 ·omega
theorem tk_tkS {c:Cm}(hp:prcB c=true):tk c.p=tkS c.p:=by
 unfold prcB at hp
 by_cases h:c.t=2
 ·rw[if_pos h] at hp;have hz:=fbit_zero (of_decide_eq_true hp);rw[hz];decide
 ·rw[if_neg h] at hp;exact(tkS_ok hp).symm
theorem plc_pos {l:List Od}{id:Int}(h:¬ plc l id<0):∃(k:Nat) (o:Od),plc l id=k/\l[k]? = some o/\o.id=id:=by
 rcases plcF_spec id l 0 with⟨Z,_⟩|⟨i,o,Z,Q,I,_⟩
 ·exact absurd (show plc l id<0 by rw[plc,Z];decide) h
 ·exact⟨i,o,by rw[plc,Z,Nat.zero_add],Q,I⟩
theorem ref_can {next:Int}{l:List Od}{id:Int}(h:refR next l ⟨2,0,0,0,0,id,0,⟨#[]⟩⟩=0):¬ plc l id<0:=by
 unfold refR at h;rw[if_neg (by show ¬ ((2:Int)=1);decide),if_pos (by rfl)] at h;split at h
 ·unfold idR at h;intro hp;rw[if_pos hp] at h;omega
 ·omega
theorem ref_red {next:Int}{l:List Od}{id q:Int}(h:refR next l ⟨3,0,0,0,q,id,0,⟨#[]⟩⟩=0):∃(k:Nat) (o:Od),plc l id=k/\l[k]? = some o/\o.id=id/\1<=q/\q<o.left:=by
 unfold refR at h;rw[if_neg (by show ¬ ((3:Int)=1);decide),if_neg (by show ¬ ((3:Int)=2);decide),if_pos (by rfl)] at h;split at h
 ·unfold redR at h;split at h
  ·rename_i hq;split at h
   ·omega
   ·rename_i hp;obtain⟨k,o,Z,Q,I⟩:=plc_pos hp;rw[Z,Int.toNat_natCast,Q] at h;simp only at h;split at h
    ·omega
    ·exact⟨k,o,Z,Q,I,by simp[betB] at hq;omega,by omega⟩
  ·omega
 ·omega
theorem gE {l:List Od}{id qty:Int}{k:Nat}{o:Od}(hp:plc l id=k)(E:l[k]? = some o):hitI l id qty=db l k o qty:=by
 unfold hitI;rw[hp,Int.toNat_natCast,E]
theorem setI_at {l:List Od}{id qty:Int}{k:Nat}{o:Od}(hp:plc l id=k)(E:l[k]? = some o):setI l id qty=l.set k { o with left:=qty }:=by
 unfold setI;rw[hp,Int.toNat_natCast,E]
theorem leftAt_at {l:List Od}{id:Int}{k:Nat}{o:Od}(hp:plc l id=k)(E:l[k]? = some o):leftAt l id=o.left:=by
 unfold leftAt;rw[hp,Int.toNat_natCast,E]
theorem takD_three {l:List Od}{c:Cm}{t:Od}(h:(takD l c t).kind=3):t.left≠0/\∃o,dv l (othS c.s)=some o/\dL c o=true/\takD l c t=⟨3,t.id,o.id,min t.left o.left,o.ticks⟩:=by
 unfold takD lftD at *
 by_cases h0:t.left=0
 ·rw[if_pos h0] at h;exact absurd h (by decide)
 ·rw[if_neg h0] at h |-;refine⟨h0,?_⟩;cases hf:dv l (othS c.s) with
  | none=>rw[hf] at h;simp only at h;split at h <;> simp at h
  | some o =>
   rw[hf] at h;simp only at h
   by_cases hm:dL c o=true
   ·exact⟨o,rfl,hm,by simp only[hm,if_true]⟩
   ·rw[if_neg hm] at h;split at h <;> simp at h
theorem takD_left {l:List Od}{c:Cm}{t:Od}(h:(takD l c t).kind≠0):t.left≠0:=by
 intro h0;unfold takD at h;rw[if_pos h0] at h;exact h rfl
theorem takD_kind (l:List Od)(c:Cm)(t:Od):(takD l c t).kind=0\/(takD l c t).kind=3\/(takD l c t).kind=4\/(takD l c t).kind=5:=by
 unfold takD lftD zDu
 repeat' split
 all_goals simp
theorem dayD_nine {l:List Od}(h:(dayD l).kind≠0):∃o,l.find? isDy=some o/\dayD l=⟨9,o.id,0,o.left,0⟩:=by
 unfold dayD at *;cases hf:l.find? isDy with
 | none=>rw[hf] at h;exact absurd rfl h
 | some o=>exact⟨o,rfl,rfl⟩
theorem dayD_kind (l:List Od):(dayD l).kind=0\/(dayD l).kind=9:=by
 unfold dayD zDu;split <;> simp
theorem due_bg {g:Gr}(h:(dueG g).kind≠0):(g.bg=1/\dueG g=takD g.l g.cm g.tk)\/(g.bg=8/\dueG g=dayD g.l):=by
 unfold dueG at *
 by_cases Z:g.bg=1
 ·exact .inl ⟨Z,by rw[if_pos Z]⟩
 ·by_cases h8:g.bg=8
  ·exact .inr ⟨h8,by rw[if_neg Z,if_pos h8]⟩
  ·rw[if_neg Z,if_neg h8] at h;exact absurd rfl h
theorem due_three {g:Gr}(h:(dueG g).kind=3):g.bg=1/\g.tk.left≠0/\∃o,dv g.l (othS g.cm.s)=some o/\dL g.cm o=true/\dueG g=⟨3,g.tk.id,o.id,min g.tk.left o.left,o.ticks⟩:=by
 rcases due_bg (g:=g) (by omega) with⟨Z,Q⟩|⟨Z,Q⟩
 ·rw[Q] at h |-;obtain⟨I,h4⟩:=takD_three h;exact⟨Z,I,h4⟩
 ·rw[Q] at h;rcases dayD_kind g.l with I|I <;> omega
theorem due_nine {g:Gr}(h:(dueG g).kind=9):g.bg=8/\∃o,g.l.find? isDy=some o/\dueG g=⟨9,o.id,0,o.left,0⟩:=by
 rcases due_bg (g:=g) (by omega) with⟨Z,Q⟩|⟨Z,Q⟩
 ·rw[Q] at h;rcases takD_kind g.l g.cm g.tk with I|I|I|I <;> omega
 ·rw[Q] at h |-;exact⟨Z,dayD_nine (by omega)⟩
theorem due_left {g:Gr}(h:(dueG g).kind=4\/(dueG g).kind=5):g.bg=1/\g.tk.left≠0:=by
 rcases due_bg (g:=g) (by omega) with⟨Z,Q⟩|⟨Z,Q⟩
 ·exact⟨Z,takD_left (l:=g.l) (c:=g.cm) (by rw[<- Q];omega)⟩
 ·rw[Q] at h;rcases dayD_kind g.l with I|I <;> omega
end Go.Proofs.YtkofhemdefffpaaGreatDoor
