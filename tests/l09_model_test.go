package tests

import (
	"math/bits"
	"math/rand/v2"
	"slices"

	"loop.example/g00369/impl"
)

// The model tells chapter 9 a second time: who says a thing is a bit, and the bits stand in a table by all that is said but by whom.
type modelSaid struct {
	kind, view, slot, value int64
}

type modelTally map[modelSaid]uint

func modelSaidIn(m impl.Msg) modelSaid {
	return modelSaid{m.Kind, m.View, m.Slot, m.Value}
}

func modelTallyOf(ledger []impl.Msg) modelTally {
	tally := modelTally{}
	for _, m := range ledger {
		tally[modelSaidIn(m)] |= 1 << m.From
	}
	return tally
}

// modelNeeds has for each f how many are enough; what is not there is no f.
var modelNeeds = map[int64]int{1: 3, 2: 5}

func (tally modelTally) enough(f int64, kind int64, view int64, slot int64, value int64) bool {
	return bits.OnesCount(tally[modelSaid{kind, view, slot, value}]) >= modelNeeds[f]
}

func modelNeed(f int64) impl.IntResult {
	if need := modelNeeds[f]; need > 0 {
		return impl.IntResult{Value: int64(need)}
	}
	return impl.IntResult{Code: impl.ErrRange}
}

// modelPrimary counts the views up, one replica behind the other, and from the last one goes back to the first.
func modelPrimary(f int64, view int64) impl.IntResult {
	if modelNeeds[f] == 0 || modelOutside(view, 20) {
		return impl.IntResult{Code: impl.ErrRange}
	}
	primary := int64(1)
	for range view {
		if primary++; primary > modelReplicas[f] {
			primary = 1
		}
	}
	return impl.IntResult{Value: primary}
}

func modelVotes(f int64, ledger []impl.Msg, m impl.Msg) impl.IntsResult {
	code := modelLedgerFault(f, ledger)
	if code == impl.OK {
		code = modelMsgFault(f, m)
	}
	if code == impl.OK && !slices.Contains([]int64{2, 3}, m.Kind) {
		code = impl.ErrForm
	}
	if code != impl.OK {
		return impl.IntsResult{Code: code}
	}
	var voters []int64
	for all := modelTallyOf(ledger)[modelSaidIn(m)]; all != 0; all &= all - 1 {
		voters = append(voters, int64(bits.TrailingZeros(all)))
	}
	return impl.IntsResult{List: voters}
}

func modelCertRight(f int64, ledger []impl.Msg, c impl.Cert) bool {
	return modelLedgerFault(f, ledger) == impl.OK && modelTallyOf(ledger).enough(f, 2, c.View, c.Slot, c.Value)
}

func (tally modelTally) decided(f int64, slot int64) []int64 {
	var values []int64
	for value := range int64(13) {
		if slices.ContainsFunc(counting(21), func(view int64) bool { return tally.enough(f, 3, view, slot, value) }) {
			values = append(values, value)
		}
	}
	return values
}

func modelDecided(f int64, ledger []impl.Msg, slot int64) impl.IntsResult {
	if code := modelLedgerFault(f, ledger); code != impl.OK {
		return impl.IntsResult{Code: code}
	}
	if modelNoSlot(slot) {
		return impl.IntsResult{Code: impl.ErrRange}
	}
	return impl.IntsResult{List: modelTallyOf(ledger).decided(f, slot)}
}

func modelLog(f int64, ledger []impl.Msg) impl.IntsResult {
	if code := modelLedgerFault(f, ledger); code != impl.OK {
		return impl.IntsResult{Code: code}
	}
	return impl.IntsResult{List: modelLogIn(f, ledger)}
}

// modelLogIn takes the first value of all slots, -1 where there is none, and cuts that at the first -1; it is asked of a ledger without a fault.
func modelLogIn(f int64, ledger []impl.Msg) []int64 {
	tally := modelTallyOf(ledger)
	firsts := slices.Repeat([]int64{-1}, 31)
	for what := range tally {
		if what.kind == 3 && tally.enough(f, 3, what.view, what.slot, what.value) {
			first := &firsts[what.slot-1]
			*first = int64(min(uint64(*first), uint64(what.value)))
		}
	}
	return firsts[:slices.Index(firsts, -1)]
}

// quorumCall holds what chapter 9 is asked with.
type quorumCall struct {
	f      int64
	view   int64
	ledger []impl.Msg
	m      impl.Msg
	c      impl.Cert
	slot   int64
}

// quorumAnswers holds what chapter 9 says of one call.
type quorumAnswers struct {
	need    impl.IntResult
	primary impl.IntResult
	votes   impl.IntsResult
	right   bool
	decided impl.IntsResult
	log     impl.IntsResult
}

func programQuorum(q quorumCall) quorumAnswers {
	return quorumAnswers{impl.NeedOf(q.f), impl.PrimaryOf(q.f, q.view), impl.VotesFor(q.f, q.ledger, q.m), impl.CertRight(q.f, q.ledger, q.c), impl.DecidedAt(q.f, q.ledger, q.slot), impl.LogOf(q.f, q.ledger)}
}

func modelQuorum(q quorumCall) quorumAnswers {
	return quorumAnswers{modelNeed(q.f), modelPrimary(q.f, q.view), modelVotes(q.f, q.ledger, q.m), modelCertRight(q.f, q.ledger, q.c), modelDecided(q.f, q.ledger, q.slot), modelLog(q.f, q.ledger)}
}

func sameQuorums(a quorumAnswers, b quorumAnswers) bool {
	return a.need == b.need && a.primary == b.primary && sameInts(a.votes, b.votes) && a.right == b.right && sameInts(a.decided, b.decided) && sameInts(a.log, b.log)
}

// drawnVoters draws replicas, most often about as many as are enough.
func drawnVoters(r *rand.Rand, f int64) []int64 {
	many := drawn(r, []int64{1, 2 * f, 2*f + 1, 2*f + 1, 2*f + 1, 3*f + 1})
	var voters []int64
	for _, id := range r.Perm(int(modelReplicas[f]))[:many] {
		voters = append(voters, int64(id)+1)
	}
	return voters
}

// drawnPolls draws votes of a few slots, so that they meet: the first slots, each with a value in some view, and then some anywhere.
func drawnPolls(r *rand.Rand, f int64) []impl.Msg {
	views, values := []int64{0, 1, 1, 20}, []int64{0, 1, 5, 12}
	var all []impl.Msg
	for slot := range drawn(r, []int64{0, 1, 2, 3, 6, 30}) {
		all = append(all, votesOf(impl.MsgCommit, drawn(r, views), slot+1, drawn(r, values), drawnVoters(r, f)...)...)
	}
	for range r.IntN(8) {
		all = append(all, votesOf(drawn(r, []int64{1, 2, 2, 3, 3}), drawn(r, views), drawn(r, []int64{1, 1, 2, 3, 30}), drawn(r, values), drawnVoters(r, f)...)...)
	}
	r.Shuffle(len(all), func(i int, j int) { all[i], all[j] = all[j], all[i] })
	return all
}

// drawnPolled draws a ledger without a fault: votes, with some of all kinds between them.
func drawnPolled(r *rand.Rand, f int64) []impl.Msg {
	var ledger []impl.Msg
	seen := modelLedger{}
	take := func(m impl.Msg) {
		if seen[modelPrint(m)]++; seen[modelPrint(m)] == 1 && len(ledger) < 240 {
			ledger = append(ledger, m)
		}
	}
	for _, m := range drawnPolls(r, f) {
		take(m)
		if r.IntN(6) == 0 {
			take(drawnMsg(r, f, len(ledger)))
		}
	}
	if r.IntN(12) == 0 {
		for len(ledger) < 240 {
			take(drawnMsg(r, f, len(ledger)))
		}
	}
	return ledger
}

// drawnFineQuorum draws a call in which nothing has a fault; what is asked for is most often there.
func drawnFineQuorum(r *rand.Rand) quorumCall {
	q := quorumCall{f: 1 + r.Int64N(2), view: r.Int64N(21), slot: drawn(r, []int64{1, 1, 2, 3, 29, 30})}
	q.ledger = drawnPolled(r, q.f)
	q.m = said(2+r.Int64N(2), r.Int64N(21), 1, 1+r.Int64N(30), r.Int64N(13))
	q.c = cert(1+r.Int64N(30), r.Int64N(21), r.Int64N(13))
	for _, place := range r.Perm(len(q.ledger)) {
		switch m := q.ledger[place]; m.Kind {
		case impl.MsgPrepare:
			q.c = cert(m.Slot, m.View, m.Value)
			q.m = m
		case impl.MsgCommit:
			q.m, q.slot = m, m.Slot
		}
	}
	q.m.From = 1 + r.Int64N(modelReplicas[q.f])
	return q
}

func spoiltCert(r *rand.Rand, c impl.Cert) impl.Cert {
	switch r.IntN(3) {
	case 0:
		c.Slot = drawn(r, []int64{-1, 0, 1, 2, 30, 31})
	case 1:
		c.View = drawn(r, []int64{-1, 0, 1, 20, 21})
	case 2:
		c.Value = drawn(r, []int64{-1, 0, 1, 12, 13})
	}
	return c
}

func drawnQuorumCall(r *rand.Rand) quorumCall {
	q := drawnFineQuorum(r)
	for range r.IntN(4) {
		switch r.IntN(10) {
		case 0:
			q.f = drawn(r, []int64{0, 1, 2, 3})
		case 1:
			q.view = drawn(r, []int64{-1, 0, 3, 4, 6, 7, 20, 21})
		case 2:
			q.ledger = spoiltLedger(r, q.ledger)
		case 3, 4:
			q.m = spoiltMsg(r, q.m)
		case 5:
			q.m = drawnMsg(r, max(min(q.f, 2), 1), 240)
		case 6, 7:
			q.c = spoiltCert(r, q.c)
		case 8, 9:
			q.slot = drawn(r, []int64{-1, 0, 1, 2, 3, 30, 31})
		}
	}
	return q
}
