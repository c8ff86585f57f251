package tests

import (
	"math/rand/v2"
	"slices"

	"loop.example/g00369/impl"
)

// The model tells chapter 11 a second time: each function is a list of rules, of which the first that is broken tells the code, and what a replica said in its View stands in a diary by kind and slot.
type modelRule struct {
	code   int64
	broken func() bool
}

func modelBroken(rules ...modelRule) int64 {
	for _, rule := range rules {
		if rule.broken() {
			return rule.code
		}
	}
	return impl.OK
}

func modelReplicaFault(f int64, ledger []impl.Msg, r impl.Replica) int64 {
	if code := modelLedgerFault(f, ledger); code != impl.OK {
		return code
	}
	return modelOneFault(f, ledger, r)
}

// modelOneFault asks of a ledger without a fault.
func modelOneFault(f int64, ledger []impl.Msg, r impl.Replica) int64 {
	return modelBroken(
		modelRule{impl.ErrRange, func() bool {
			return modelNoReplica(f, r.Id) || modelOutside(r.View, 20) || modelOutside(r.Done, 30)
		}},
		modelRule{impl.ErrForm, func() bool {
			return r.Start != -1 && (r.View == 0 || !modelRightNew(f, ledger, r.Start) || ledger[r.Start].View != r.View)
		}},
		modelRule{impl.ErrState, func() bool { return r.Done != 0 && int(r.Done) > len(modelLogIn(f, ledger)) }},
	)
}

func modelIsIn(r impl.Replica) bool {
	return !(r.View > 0 && r.Start == -1)
}

func modelLeads(f int64, r impl.Replica) bool {
	return modelPrimary(f, r.View).Value == r.Id
}

// modelDiary has the values by kind and slot.
type modelDiary map[[2]int64][]int64

func modelDiaryOf(ledger []impl.Msg, r impl.Replica) modelDiary {
	diary := modelDiary{}
	for _, m := range ledger {
		if m.From == r.Id && m.View == r.View {
			diary[[2]int64{m.Kind, m.Slot}] = append(diary[[2]int64{m.Kind, m.Slot}], m.Value)
		}
	}
	return diary
}

func (diary modelDiary) has(kind int64, slot int64) bool {
	return len(diary[[2]int64{kind, slot}]) > 0
}

func (diary modelDiary) hasValue(kind int64, value int64) bool {
	return slices.ContainsFunc(counting(31), func(slot int64) bool {
		return slices.Contains(diary[[2]int64{kind, slot}], value)
	})
}

// modelHeld is what slot must hold in the view of a replica without a fault; false if nothing is taken over there.
func modelHeld(ledger []impl.Msg, r impl.Replica, slot int64) (int64, bool) {
	if r.Start == -1 {
		return 0, false
	}
	for at, value := range modelTaken(ledger, ledger[r.Start].Refs) {
		if int64(at)+1 == slot {
			return value, true
		}
	}
	return 0, false
}

// modelMayPropose, and those behind it, ask of a replica without a fault.
func modelMayPropose(f int64, ledger []impl.Msg, r impl.Replica, slot int64, value int64) int64 {
	diary := modelDiaryOf(ledger, r)
	return modelBroken(
		modelRule{impl.ErrRange, func() bool { return modelNoSlot(slot) || modelOutside(value, 12) }},
		modelRule{impl.ErrState, func() bool { return !modelIsIn(r) || !modelLeads(f, r) }},
		modelRule{impl.ErrTaken, func() bool { return diary.has(1, slot) }},
		modelRule{impl.ErrNone, func() bool { return slot != 1 && !diary.has(1, slot-1) }},
		modelRule{impl.ErrForm, func() bool {
			if held, taken := modelHeld(ledger, r, slot); taken {
				return value != held
			}
			return value == 0 || diary.hasValue(1, value)
		}},
	)
}

func modelMayPrepare(f int64, ledger []impl.Msg, r impl.Replica, place int64) int64 {
	return modelBroken(
		modelRule{impl.ErrForm, func() bool {
			return !modelProposeRight(f, ledger, place, r.Start) || ledger[place].View != r.View
		}},
		modelRule{impl.ErrTaken, func() bool { return modelDiaryOf(ledger, r).has(2, ledger[place].Slot) }},
	)
}

func modelMayCommit(f int64, ledger []impl.Msg, r impl.Replica, slot int64, value int64) int64 {
	return modelBroken(
		modelRule{impl.ErrRange, func() bool { return modelNoSlot(slot) || modelOutside(value, 12) }},
		modelRule{impl.ErrState, func() bool { return !modelIsIn(r) }},
		modelRule{impl.ErrSign, func() bool { return !modelTallyOf(ledger).enough(f, 2, r.View, slot, value) }},
		modelRule{impl.ErrTaken, func() bool { return modelDiaryOf(ledger, r).has(3, slot) }},
	)
}

func modelChangeMsg(f int64, ledger []impl.Msg, r impl.Replica, view int64) impl.MsgResult {
	code := modelBroken(
		modelRule{impl.ErrRange, func() bool { return modelOutside(view, 20) }},
		modelRule{impl.ErrState, func() bool { return r.View >= view }},
	)
	if code != impl.OK {
		return impl.MsgResult{Code: code}
	}
	return impl.MsgResult{Msg: changing(view, r.Id, modelCertsOf(f, ledger, r.Id, view).Certs...)}
}

func modelNewMsg(f int64, ledger []impl.Msg, r impl.Replica) impl.MsgResult {
	code := modelBroken(
		modelRule{impl.ErrState, func() bool { return r.View == 0 || !modelLeads(f, r) || r.Start != -1 }},
		modelRule{impl.ErrSign, func() bool { return len(modelChangesFor(f, ledger, r.View).List) < modelNeeds[f] }},
	)
	if code != impl.OK {
		return impl.MsgResult{Code: code}
	}
	return impl.MsgResult{Msg: beginning(r.View, r.Id, modelChangesFor(f, ledger, r.View).List...)}
}

// replicaCall holds what chapter 11 is asked with; next is what is proposed, done what is committed (its View is not asked).
type replicaCall struct {
	f      int64
	ledger []impl.Msg
	r      impl.Replica
	next   impl.Cert
	place  int64
	done   impl.Cert
	view   int64
}

// replicaAnswers holds what chapter 11 says of one call.
type replicaAnswers struct {
	fault   int64
	propose int64
	prepare int64
	commit  int64
	change  impl.MsgResult
	begin   impl.MsgResult
}

func programReplica(c replicaCall) replicaAnswers {
	return replicaAnswers{impl.ReplicaFault(c.f, c.ledger, c.r), impl.MayPropose(c.f, c.ledger, c.r, c.next.Slot, c.next.Value), impl.MayPrepare(c.f, c.ledger, c.r, c.place), impl.MayCommit(c.f, c.ledger, c.r, c.done.Slot, c.done.Value), impl.ChangeMsg(c.f, c.ledger, c.r, c.view), impl.NewMsg(c.f, c.ledger, c.r)}
}

func modelReplica(c replicaCall) replicaAnswers {
	if code := modelReplicaFault(c.f, c.ledger, c.r); code != impl.OK {
		return faultOf(code)
	}
	return replicaAnswers{impl.OK, modelMayPropose(c.f, c.ledger, c.r, c.next.Slot, c.next.Value), modelMayPrepare(c.f, c.ledger, c.r, c.place), modelMayCommit(c.f, c.ledger, c.r, c.done.Slot, c.done.Value), modelChangeMsg(c.f, c.ledger, c.r, c.view), modelNewMsg(c.f, c.ledger, c.r)}
}

// faultOf is what all functions tell of a replica with a fault.
func faultOf(code int64) replicaAnswers {
	return replicaAnswers{code, code, code, code, impl.MsgResult{Code: code}, impl.MsgResult{Code: code}}
}

func sameMsgResult(a impl.MsgResult, b impl.MsgResult) bool {
	return a.Code == b.Code && equalMsgs(a.Msg, b.Msg)
}

func sameReplicas(a replicaAnswers, b replicaAnswers) bool {
	codes := [...][4]int64{{a.fault, a.propose, a.prepare, a.commit}, {b.fault, b.propose, b.prepare, b.commit}}
	return codes[0] == codes[1] && sameMsgResult(a.change, b.change) && sameMsgResult(a.begin, b.begin)
}

// rightNews are the places of those MsgNew that are right.
func (d *viewsDrawn) rightNews() []int64 {
	return slices.DeleteFunc(counting(len(d.ledger)), func(at int64) bool { return !modelRightNew(d.f, d.ledger, at) })
}

// replica draws one that has begun its view, or waits for it; most often it leads that.
func (d *viewsDrawn) replica() impl.Replica {
	r := impl.Replica{View: drawn(d.r, []int64{0, 0, 1, 2, 3, 4, 5, 7, 20}), Start: -1}
	if starts := d.rightNews(); len(starts) > 0 && d.r.IntN(4) > 0 {
		r.Start = drawn(d.r, starts)
		r.View = d.ledger[r.Start].View
	}
	if changes := d.placesWith(func(m impl.Msg) bool { return m.Kind == 4 }); r.Start == -1 && len(changes) > 0 && d.r.IntN(2) == 0 {
		r.View = d.ledger[drawn(d.r, changes)].View
	}
	r.Id = modelPrimary(d.f, r.View).Value
	if d.r.IntN(4) == 0 {
		r.Id = 1 + d.r.Int64N(modelReplicas[d.f])
	}
	return r
}

// speak draws what a replica says in its View: proposes one slot behind the other, of which some are prepared and committed.
func (d *viewsDrawn) speak(r impl.Replica) {
	many := d.r.Int64N(7)
	for slot := int64(1); slot <= many; slot++ {
		value, taken := modelHeld(d.ledger, r, slot)
		if !taken || d.r.IntN(8) == 0 {
			value = d.r.Int64N(13)
		}
		d.take(said(1, r.View, r.Id, slot, value))
		if d.r.IntN(3) == 0 {
			d.take(prepares(r.View, slot, value, drawnVoters(d.r, d.f)...)...)
		}
		if d.r.IntN(3) == 0 {
			d.take(commits(r.View, slot, value, drawnVoters(d.r, d.f)...)...)
		}
	}
}

// drawnFineReplica draws a call in which nothing has a fault; what is asked for is most often near to what may be said.
func drawnFineReplica(r *rand.Rand) replicaCall {
	c := replicaCall{f: 1 + r.Int64N(2)}
	ledger := drawnViews(r, c.f)
	d := viewsDrawn{r: r, f: c.f, ledger: ledger, seen: modelLedgerOf(ledger)}
	c.r = d.replica()
	d.speak(c.r)
	c.ledger = d.ledger
	c.r.Done = r.Int64N(int64(len(modelLog(c.f, c.ledger).List)) + 1)
	diary, next := modelDiaryOf(c.ledger, c.r), int64(1)
	for diary.has(1, next) {
		next++
	}
	c.next = cert(max(min(next+drawn(r, []int64{-1, 0, 0, 0, 0, 0, 1}), 30), 1), 0, r.Int64N(13))
	if held, taken := modelHeld(c.ledger, c.r, c.next.Slot); taken && r.IntN(4) > 0 {
		c.next.Value = held
	}
	c.place = drawnPlace(r, c.ledger, 1)
	if own := d.placesWith(func(m impl.Msg) bool { return m.Kind == 1 && m.View == c.r.View }); len(own) > 0 && r.IntN(6) > 0 {
		c.place = drawn(r, own)
	}
	c.done = cert(1+r.Int64N(6), 0, r.Int64N(13))
	if votes := d.placesWith(func(m impl.Msg) bool { return m.Kind == 2 && m.View == c.r.View }); len(votes) > 0 && r.IntN(6) > 0 {
		m := c.ledger[drawn(r, votes)]
		c.done = cert(m.Slot, 0, m.Value)
	}
	c.view = drawn(r, []int64{0, c.r.View, min(c.r.View+1, 20), min(c.r.View+1, 20), 20})
	return c
}

// spoiltReplica turns one thing of a replica, most often into a fault.
func spoiltReplica(r *rand.Rand, one impl.Replica, many int64) impl.Replica {
	switch r.IntN(4) {
	case 0:
		one.Id = drawn(r, []int64{-1, 0, 1, 2, 4, 5, 7, 8})
	case 1:
		one.View = drawn(r, []int64{-1, 0, 1, 2, 20, 21})
	case 2:
		one.Start = drawn(r, []int64{-2, -1, 0, many - 1, many, many + 1, r.Int64N(many + 1)})
	case 3:
		one.Done = drawn(r, []int64{-1, 0, one.Done + 1, 30, 31})
	}
	return one
}

// drawnReplicaCall draws a call in which some is turned, most often into a fault.
func drawnReplicaCall(r *rand.Rand) replicaCall {
	c := drawnFineReplica(r)
	many := int64(len(c.ledger))
	for range r.IntN(4) {
		switch r.IntN(12) {
		case 0:
			c.f = drawn(r, []int64{0, 1, 2, 3})
		case 1:
			c.ledger = spoiltLedger(r, c.ledger)
		case 2, 3, 4:
			c.r = spoiltReplica(r, c.r, many)
		case 5, 6:
			c.next = spoiltCert(r, c.next)
		case 7:
			c.place = drawn(r, []int64{-2, -1, 0, many - 1, many, many + 1, r.Int64N(many + 1)})
		case 8, 9:
			c.done = spoiltCert(r, c.done)
		case 10, 11:
			c.view = drawn(r, []int64{-1, 0, 1, 20, 21})
		}
	}
	return c
}
