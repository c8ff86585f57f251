package tests

import (
	"fmt"
	"math"
	"math/bits"
	"math/rand/v2"
	"slices"
	"testing"

	"loop.example/g00369/impl"
)

// votesOf are messages that say one thing, each from another one.
func votesOf(kind int64, view int64, slot int64, value int64, from ...int64) []impl.Msg {
	var list []impl.Msg
	for _, id := range from {
		list = append(list, said(kind, view, id, slot, value))
	}
	return list
}

func prepares(view int64, slot int64, value int64, from ...int64) []impl.Msg {
	return votesOf(impl.MsgPrepare, view, slot, value, from...)
}

func commits(view int64, slot int64, value int64, from ...int64) []impl.Msg {
	return votesOf(impl.MsgCommit, view, slot, value, from...)
}

func ledgerOf(parts ...[]impl.Msg) []impl.Msg {
	return slices.Concat(parts...)
}

// firstOnes are the replicas from 1 on.
func firstOnes(many int64) []int64 {
	return counting(int(many) + 1)[1:]
}

// lastOnes are the replicas up to the last one, that one first.
func lastOnes(f int64, many int64) []int64 {
	all := firstOnes(3*f + 1)
	slices.Reverse(all)
	return all[:many]
}

// onesOf are the replicas whose bits are set.
func onesOf(set uint) []int64 {
	var list []int64
	for id := int64(1); id <= 7; id++ {
		if set&(1<<(id-1)) != 0 {
			list = append(list, id)
		}
	}
	return list
}

// fullLedger has 240 messages: all four replicas prepared and committed each slot, of the value that valueAt tells.
func fullLedger() []impl.Msg {
	var list []impl.Msg
	for slot := int64(1); slot <= 30; slot++ {
		list = append(list, prepares(slot%21, slot, valueAt(slot), 4, 3, 2, 1)...)
		list = append(list, commits(slot%21, slot, valueAt(slot), 2, 4, 1, 3)...)
	}
	return list
}

func valueAt(slot int64) int64 {
	return slot * 5 % 13
}

func valuesTo(slot int64) []int64 {
	var list []int64
	for s := range slot {
		list = append(list, valueAt(s+1))
	}
	return list
}

func TestNeedOf(t *testing.T) {
	for f, want := range map[int64]impl.IntResult{1: valueOf(3), 2: valueOf(5)} {
		if got := impl.NeedOf(f); got != want {
			t.Errorf("NeedOf %d: %+v, want %+v", f, got, want)
		}
	}
	for _, f := range noFs {
		if got := impl.NeedOf(f); got != noValue(impl.ErrRange) {
			t.Errorf("NeedOf %d: %+v, want the code %d alone", f, got, impl.ErrRange)
		}
	}
}

// noFs are numbers that are no f.
var noFs = []int64{math.MinInt64, -2, -1, 0, 3, 4, 257, 1<<32 + 1, math.MaxInt64 / 2, math.MaxInt64}

func TestPrimaryOf(t *testing.T) {
	cases := []struct {
		f, view int64
		want    impl.IntResult
	}{
		{1, -1, noValue(impl.ErrRange)}, {1, 0, valueOf(1)}, {1, 1, valueOf(2)}, {1, 2, valueOf(3)}, {1, 3, valueOf(4)}, {1, 4, valueOf(1)}, {1, 5, valueOf(2)},
		{1, 19, valueOf(4)}, {1, 20, valueOf(1)}, {1, 21, noValue(impl.ErrRange)}, {1, math.MinInt64, noValue(impl.ErrRange)}, {1, math.MaxInt64, noValue(impl.ErrRange)},
		{2, -1, noValue(impl.ErrRange)}, {2, 0, valueOf(1)}, {2, 1, valueOf(2)}, {2, 3, valueOf(4)}, {2, 4, valueOf(5)}, {2, 6, valueOf(7)}, {2, 7, valueOf(1)}, {2, 8, valueOf(2)},
		{2, 13, valueOf(7)}, {2, 14, valueOf(1)}, {2, 20, valueOf(7)}, {2, 21, noValue(impl.ErrRange)}, {2, math.MinInt64, noValue(impl.ErrRange)}, {2, math.MaxInt64, noValue(impl.ErrRange)},
	}
	for _, c := range cases {
		if got := impl.PrimaryOf(c.f, c.view); got != c.want {
			t.Errorf("f %d: PrimaryOf %d: %+v, want %+v", c.f, c.view, got, c.want)
		}
	}
	for view := int64(-30); view <= 50; view++ {
		for f := int64(-1); f <= 4; f++ {
			if got, want := impl.PrimaryOf(f, view), modelPrimary(f, view); got != want {
				t.Errorf("f %d: PrimaryOf %d: %+v, want %+v", f, view, got, want)
			}
		}
	}
}

// In views that follow each other each replica is the primary in turn, so one that is not bad always comes.
func TestEachIsPrimaryInTurn(t *testing.T) {
	for _, f := range []int64{1, 2} {
		for from := int64(0); from+3*f <= 20; from++ {
			var primaries []int64
			for view := from; view <= from+3*f; view++ {
				primaries = append(primaries, impl.PrimaryOf(f, view).Value)
			}
			slices.Sort(primaries)
			if !slices.Equal(primaries, firstOnes(3*f+1)) {
				t.Errorf("f %d: the primaries from view %d on: %v", f, from, primaries)
			}
		}
	}
}

// checkQuorumCode asks the four functions that have a ledger, all of which must tell one code (CertRight: false) and nothing else.
func checkQuorumCode(t *testing.T, name string, q quorumCall, want int64) {
	t.Helper()
	got := programQuorum(q)
	if !sameInts(got.votes, noPlaces(want)) || got.right || !sameInts(got.decided, noPlaces(want)) || !sameInts(got.log, noPlaces(want)) {
		t.Errorf("%s: %+v, want the code %d alone", name, got, want)
	}
}

// f is asked ahead of the view, the ledger, the message and the slot.
func TestQuorumsAskFFirst(t *testing.T) {
	enough := ledgerOf(prepares(0, 1, 2, 1, 2, 3), commits(0, 1, 2, 1, 2, 3))
	ledgers := [][]impl.Msg{nil, enough, manyMsgs(240), make([]impl.Msg, 241), msgs(newcomer, newcomer), msgs(beginning(1, 1, 0)), msgs(impl.Msg{})}
	for _, f := range noFs {
		for i, ledger := range ledgers {
			for _, m := range msgs(enough[0], impl.Msg{}, changing(1, 1), said(2, 1, 9, 31, 4), beginning(1, 1, counting(9)...)) {
				for _, n := range []int64{-1, 0, 1, 20, 30, 31} {
					q := quorumCall{f: f, view: n, ledger: ledger, m: m, c: cert(1, 0, 2), slot: n}
					checkQuorumCode(t, fmt.Sprintf("f %d, ledger %d", f, i), q, impl.ErrRange)
					if got := impl.PrimaryOf(f, n); got != noValue(impl.ErrRange) {
						t.Errorf("f %d: PrimaryOf %d: %+v", f, n, got)
					}
				}
			}
		}
	}
	// The same ledger, of both f: what is enough for the one is not for the other.
	if !impl.CertRight(1, enough, cert(1, 0, 2)) || impl.CertRight(2, enough, cert(1, 0, 2)) {
		t.Error("three of four and three of seven are alike")
	}
	if got := impl.LogOf(1, enough); !sameInts(got, placesOf(2)) {
		t.Errorf("three of four: %+v", got)
	}
	if got := impl.LogOf(2, enough); !sameInts(got, placesOf()) {
		t.Errorf("three of seven: %+v", got)
	}
}

// A ledger with a fault has no votes, no certificate and no log, even if enough stands in it; its code comes ahead of that of the message and of the slot.
func TestQuorumsAskTheLedgerFirst(t *testing.T) {
	enough := ledgerOf(prepares(7, 1, 2, 1, 2, 3), commits(7, 1, 2, 1, 2, 3))
	asked := msgs(enough[0], said(2, 7, 4, 1, 2), impl.Msg{}, said(2, 1, 2, 31, 4), changing(1, 1), beginning(1, 1, counting(9)...))
	check := func(name string, f int64, ledger []impl.Msg, want int64) {
		t.Helper()
		for _, m := range asked {
			for _, slot := range []int64{-1, 0, 1, 30, 31} {
				checkQuorumCode(t, name, quorumCall{f: f, ledger: ledger, m: m, c: cert(1, 7, 2), slot: slot}, want)
			}
		}
	}
	for _, l := range faultyLedgers() {
		check(l.name, l.f, l.ledger, l.want)
		if behind := ledgerOf(l.ledger, enough); len(behind) <= 240 {
			check("with enough behind: "+l.name, l.f, behind, l.want)
		}
	}
	for _, c := range faultyMsgs() {
		if c.f == 1 {
			check("enough, and behind it "+c.name, 1, ledgerOf(enough, msgs(c.m)), c.want)
			check("enough, and ahead of it "+c.name, 1, ledgerOf(msgs(c.m), enough), c.want)
		}
	}
	check("enough, one of them twice", 1, ledgerOf(enough, enough[:1]), impl.ErrTaken)
	check("enough, of a replica that is none", 1, ledgerOf(enough, commits(7, 1, 2, 5)), impl.ErrRange)
	check("enough, and one that names itself", 1, ledgerOf(enough, msgs(beginning(1, 1, 6))), impl.ErrNone)
	check("enough, and too many", 1, ledgerOf(enough, manyMsgs(235)), impl.ErrMany)
	check("fullLedger, and one more", 1, ledgerOf(fullLedger(), msgs(changing(20, 1))), impl.ErrMany)
}

func TestQuorumsOfNothing(t *testing.T) {
	for _, f := range []int64{1, 2} {
		for _, ledger := range [][]impl.Msg{nil, {}} {
			for _, slot := range []int64{1, 2, 30} {
				q := quorumCall{f: f, ledger: ledger, m: said(2, 0, 1, slot, 0), c: cert(slot, 0, 0), slot: slot}
				checkQuorumCode(t, "no message", q, impl.OK)
				q.m.Kind = impl.MsgCommit
				checkQuorumCode(t, "no message, of commits", q, impl.OK)
			}
		}
	}
	// Of many messages no two of which say the same there is no more.
	list := manyMsgs(240)
	for _, m := range list {
		if got := impl.DecidedAt(1, list, max(m.Slot, 1)); !sameInts(got, placesOf()) {
			t.Errorf("DecidedAt %d: %+v", m.Slot, got)
		}
		if m.Slot > 0 && impl.CertRight(1, list, cert(m.Slot, m.View, m.Value)) {
			t.Errorf("one message %+v is enough", m)
		}
	}
	if got := impl.LogOf(1, list); !sameInts(got, placesOf()) {
		t.Errorf("LogOf: %+v", got)
	}
}

func TestQuorumsOfAFullLedger(t *testing.T) {
	list := fullLedger()
	if len(list) != 240 || impl.LedgerFault(1, list) != impl.OK {
		t.Fatalf("%d messages, the code %d", len(list), impl.LedgerFault(1, list))
	}
	for place, m := range list {
		if m.Kind == impl.MsgPrepare && !impl.CertRight(1, list, cert(m.Slot, m.View, m.Value)) {
			t.Errorf("slot %d has no certificate", m.Slot)
		}
		if got := impl.VotesFor(1, list, list[place]); !sameInts(got, placesOf(1, 2, 3, 4)) {
			t.Errorf("VotesFor %+v: %+v", m, got)
		}
		if got := impl.DecidedAt(1, list, m.Slot); !sameInts(got, placesOf(valueAt(m.Slot))) {
			t.Errorf("DecidedAt %d: %+v", m.Slot, got)
		}
	}
	if got := impl.LogOf(1, list); !sameInts(got, placesOf(valuesTo(30)...)) {
		t.Errorf("LogOf: %+v", got)
	}
	// The last of 240 messages is heard as well as the others.
	last := ledgerOf(manyMsgs(237), commits(20, 1, 12, 4, 1, 2))
	if got := impl.LogOf(1, last); !sameInts(got, placesOf(12)) {
		t.Errorf("LogOf, decided by the last three: %+v", got)
	}
	last = ledgerOf(prepares(20, 30, 12, 4, 1), manyMsgs(237), prepares(20, 30, 12, 3))
	if !impl.CertRight(1, last, cert(30, 20, 12)) || impl.CertRight(1, last[:239], cert(30, 20, 12)) {
		t.Error("a certificate by the first two and the last one")
	}
}

type votesCase struct {
	name   string
	f      int64
	ledger []impl.Msg
	m      impl.Msg
	want   impl.IntsResult
}

func checkVotes(t *testing.T, cases []votesCase) {
	t.Helper()
	for _, c := range cases {
		if got := impl.VotesFor(c.f, c.ledger, c.m); !sameInts(got, c.want) {
			t.Errorf("%s: f %d: VotesFor %+v: %+v, want %+v", c.name, c.f, c.m, got, c.want)
		}
	}
}

func TestVotesFor(t *testing.T) {
	for _, kind := range []int64{impl.MsgPrepare, impl.MsgCommit} {
		vote := func(from ...int64) []impl.Msg { return votesOf(kind, 3, 4, 5, from...) }
		m := vote(1)[0]
		empty := m
		empty.Certs, empty.Refs = certs(), []int64{}
		checkVotes(t, []votesCase{
			{"nobody", 1, nil, m, placesOf()},
			{"nobody of some who say other things", 1, manyMsgs(20), m, placesOf()},
			{"itself alone", 1, vote(1), m, placesOf(1)},
			{"another one alone", 1, vote(3), m, placesOf(3)},
			{"the last one alone", 1, vote(4), m, placesOf(4)},
			{"two", 1, vote(2, 3), m, placesOf(2, 3)},
			{"two, turned about", 1, vote(3, 2), m, placesOf(2, 3)},
			{"all", 1, vote(1, 2, 3, 4), m, placesOf(1, 2, 3, 4)},
			{"all, from the last one on", 1, vote(4, 3, 2, 1), m, placesOf(1, 2, 3, 4)},
			{"all, out of order", 1, vote(3, 1, 4, 2), m, placesOf(1, 2, 3, 4)},
			{"all of seven, out of order", 2, vote(6, 2, 7, 1, 5, 3, 4), m, placesOf(1, 2, 3, 4, 5, 6, 7)},
			{"the last ones of seven", 2, vote(7, 6, 5), m, placesOf(5, 6, 7)},
			{"with others between", 1, ledgerOf(manyMsgs(20), vote(4), msgs(changing(3, 2), beginning(3, 2, 1)), vote(1), msgs(said(1, 3, 2, 4, 5))), m, placesOf(1, 4)},
			{"an m with empty lists", 1, vote(2, 1), empty, placesOf(1, 2)},
			{"a ledger with empty lists", 1, msgs(empty), said(kind, 3, 2, 4, 5), placesOf(1)},
		})
	}
	least, greatest := said(2, 0, 1, 1, 0), said(3, 20, 7, 30, 12)
	checkVotes(t, []votesCase{
		{"the least vote", 1, prepares(0, 1, 0, 2, 1), least, placesOf(1, 2)},
		{"the greatest vote", 2, commits(20, 30, 12, 7, 6), greatest, placesOf(6, 7)},
	})
}

// Whom m is from is all one, as long as it is a replica, and so is whether m itself was sent.
func TestVotesForAnyFrom(t *testing.T) {
	for _, f := range []int64{1, 2} {
		for set := range uint(1) << (3*f + 1) {
			for id := int64(1); id <= 3*f+1; id++ {
				for _, kind := range []int64{impl.MsgPrepare, impl.MsgCommit} {
					from := onesOf(set)
					want := placesOf(slices.Clone(from)...)
					slices.Reverse(from)
					checkVotes(t, []votesCase{{"from any", f, votesOf(kind, 2, 3, 4, from...), said(kind, 2, id, 3, 4), want}})
				}
			}
		}
	}
}

// Who says something that differs in one field alone has not said m; one that says both is told of both.
func TestVotesForAsksEachField(t *testing.T) {
	for _, kind := range []int64{impl.MsgPrepare, impl.MsgCommit} {
		m := said(kind, 3, 1, 4, 5)
		others := map[string][]impl.Msg{
			"Kind":  msgs(said(5-kind, 3, 1, 4, 5), said(1, 3, 1, 4, 5)),
			"View":  msgs(said(kind, 2, 1, 4, 5), said(kind, 4, 1, 4, 5), said(kind, 0, 1, 4, 5), said(kind, 20, 1, 4, 5)),
			"Slot":  msgs(said(kind, 3, 1, 3, 5), said(kind, 3, 1, 5, 5), said(kind, 3, 1, 1, 5), said(kind, 3, 1, 30, 5)),
			"Value": msgs(said(kind, 3, 1, 4, 4), said(kind, 3, 1, 4, 6), said(kind, 3, 1, 4, 0), said(kind, 3, 1, 4, 12)),
			"two":   msgs(said(kind, 4, 1, 3, 5), said(kind, 3, 1, 5, 4), said(kind, 5, 1, 4, 3)),
		}
		for field, list := range others {
			for _, other := range list {
				again := func(from ...int64) []impl.Msg {
					return votesOf(other.Kind, other.View, other.Slot, other.Value, from...)
				}
				apart := ledgerOf(again(4), votesOf(kind, 3, 4, 5, 3, 1), again(2))
				both := ledgerOf(again(4, 1, 2), votesOf(kind, 3, 4, 5, 3, 1))
				alone := again(1, 2, 3, 4)
				for id := int64(1); id <= 4; id++ {
					m.From, other.From = id, id
					checkVotes(t, []votesCase{
						{"another " + field, 1, apart, m, placesOf(1, 3)},
						{"another and itself " + field, 1, both, m, placesOf(1, 3)},
						{"another alone " + field, 1, alone, m, placesOf()},
					})
					if other.Kind != impl.MsgPropose {
						checkVotes(t, []votesCase{
							{"of the other " + field, 1, apart, other, placesOf(2, 4)},
							{"of the other and itself " + field, 1, both, other, placesOf(1, 2, 4)},
						})
					}
				}
			}
		}
	}
}

func TestVotesForAsksTheMessage(t *testing.T) {
	ledgers := map[string][]impl.Msg{"none": nil, "20": manyMsgs(20), "240": manyMsgs(240), "enough": ledgerOf(prepares(1, 3, 4, 1, 2, 3), commits(1, 3, 4, 1, 2, 3))}
	for name, ledger := range ledgers {
		for _, c := range faultyMsgs() {
			checkVotes(t, []votesCase{{name + ": " + c.name, c.f, ledger, c.m, noPlaces(c.want)}})
		}
		for _, c := range fineMsgs {
			if c.m.Kind != impl.MsgPrepare && c.m.Kind != impl.MsgCommit {
				checkVotes(t, []votesCase{{name + ": " + c.name, c.f, ledger, c.m, noPlaces(impl.ErrForm)}})
			}
		}
	}
	for _, m := range msgs(said(1, 1, 2, 3, 4), changing(1, 2, certsAt(3)...), beginning(1, 2)) {
		checkVotes(t, []votesCase{
			{"no vote, though it was sent", 1, msgs(m), m, noPlaces(impl.ErrForm)},
			{"no vote, though one was, too", 1, ledgerOf(msgs(m), prepares(1, 3, 4, 2)), m, noPlaces(impl.ErrForm)},
		})
	}
	checkVotes(t, []votesCase{
		{"a wrong Slot ahead of no vote", 1, nil, said(1, 1, 2, 31, 4), noPlaces(impl.ErrRange)},
		{"a wrong View ahead of no vote", 1, nil, changing(-1, 2), noPlaces(impl.ErrRange)},
		{"too many Refs ahead of no vote", 1, nil, beginning(1, 2, counting(5)...), noPlaces(impl.ErrMany)},
		{"no vote, with a ref that is nowhere", 1, nil, beginning(1, 2, 239), noPlaces(impl.ErrForm)},
		{"From is none, though that is all one", 1, prepares(1, 3, 4, 1, 2, 3), said(2, 1, 0, 3, 4), noPlaces(impl.ErrRange)},
		{"From is none of four", 1, prepares(1, 3, 4, 1, 2, 3), said(2, 1, 5, 3, 4), noPlaces(impl.ErrRange)},
		{"From is one of seven", 2, prepares(1, 3, 4, 1, 2, 3), said(2, 1, 5, 3, 4), placesOf(1, 2, 3)},
	})
}

// checkCert asks of a ledger that must have no fault, so that a false is told of the votes alone.
func checkCert(t *testing.T, name string, f int64, ledger []impl.Msg, c impl.Cert, want bool) {
	t.Helper()
	if code := impl.LedgerFault(f, ledger); code != impl.OK {
		t.Fatalf("%s: the ledger has the code %d", name, code)
	}
	if got := impl.CertRight(f, ledger, c); got != want {
		t.Errorf("%s: f %d: CertRight of %+v: %v, want %v", name, f, c, got, want)
	}
}

func TestCertRight(t *testing.T) {
	c := cert(3, 2, 4)
	for _, f := range []int64{1, 2} {
		few, enough, all := firstOnes(2*f), firstOnes(2*f+1), firstOnes(3*f+1)
		next := 2*f + 1
		checkCert(t, "2f", f, prepares(2, 3, 4, few...), c, false)
		checkCert(t, "2f+1", f, prepares(2, 3, 4, enough...), c, true)
		checkCert(t, "3f+1", f, prepares(2, 3, 4, all...), c, true)
		checkCert(t, "the last 2f", f, prepares(2, 3, 4, lastOnes(f, 2*f)...), c, false)
		checkCert(t, "the last 2f+1", f, prepares(2, 3, 4, lastOnes(f, 2*f+1)...), c, true)
		checkCert(t, "2f, and one of another View", f, ledgerOf(prepares(2, 3, 4, few...), prepares(1, 3, 4, next)), c, false)
		checkCert(t, "2f, and one of another Slot", f, ledgerOf(prepares(2, 3, 4, few...), prepares(2, 2, 4, next)), c, false)
		checkCert(t, "2f, and one of another Value", f, ledgerOf(prepares(2, 3, 4, few...), prepares(2, 3, 5, next)), c, false)
		checkCert(t, "2f, and a commit", f, ledgerOf(prepares(2, 3, 4, few...), commits(2, 3, 4, next)), c, false)
		checkCert(t, "2f, and a propose", f, ledgerOf(prepares(2, 3, 4, few...), votesOf(1, 2, 3, 4, next)), c, false)
		checkCert(t, "2f, and their commits", f, ledgerOf(prepares(2, 3, 4, few...), commits(2, 3, 4, few...)), c, false)
		checkCert(t, "2f, and a change with it", f, ledgerOf(prepares(2, 3, 4, few...), msgs(changing(7, next, c))), c, false)
		checkCert(t, "commits alone", f, commits(2, 3, 4, all...), c, false)
		checkCert(t, "proposes alone", f, votesOf(1, 2, 3, 4, all...), c, false)
		checkCert(t, "2f+1, who say other things, too", f, ledgerOf(prepares(2, 3, 5, enough...), prepares(2, 3, 4, enough...), commits(2, 3, 5, enough...)), c, true)
		for _, other := range certs(cert(2, 2, 4), cert(4, 2, 4), cert(3, 1, 4), cert(3, 3, 4), cert(3, 2, 3), cert(3, 2, 5), cert(3, 4, 2), cert(2, 3, 4), cert(3, 2, 0), cert(3, 0, 4), impl.Cert{}) {
			checkCert(t, "of another thing", f, prepares(2, 3, 4, all...), other, false)
		}
	}
	// Three of four prepared a value, a fourth another one: the former has a certificate.
	split := ledgerOf(prepares(2, 3, 5, 2), prepares(2, 3, 4, 1, 3, 4))
	checkCert(t, "three of four", 1, split, c, true)
	checkCert(t, "one of four", 1, split, cert(3, 2, 5), false)
	spread := ledgerOf(prepares(2, 3, 4, 1, 2), prepares(3, 3, 4, 3, 4))
	checkCert(t, "two in each of two Views", 1, spread, c, false)
	checkCert(t, "two in each of two Views, the other", 1, spread, cert(3, 3, 4), false)
}

// What all have prepared is told of just the numbers that it has, up to the bounds and not beyond.
func TestCertRightAsksBounds(t *testing.T) {
	check := func(name string, numbers []int64, least int64, most int64, at func(n int64) impl.Cert) {
		t.Helper()
		for _, n := range numbers {
			c := at(n)
			fine := n >= least && n <= most
			var all []impl.Msg
			for _, edge := range []int64{least, most} {
				known := at(edge)
				all = append(all, prepares(known.View, known.Slot, known.Value, 1, 2, 3, 4)...)
			}
			if fine && n != least && n != most {
				all = append(all, prepares(c.View, c.Slot, c.Value, 1, 2, 3, 4)...)
			}
			checkCert(t, fmt.Sprintf("%s %d", name, n), 1, all, c, fine)
			checkCert(t, fmt.Sprintf("%s %d, of nothing", name, n), 1, nil, c, false)
		}
	}
	far := []int64{math.MinInt64, -1, 0, 1, 2, 11, 12, 13, 19, 20, 21, 29, 30, 31, 1<<32 + 1, math.MaxInt64}
	check("Slot", far, 1, 30, func(n int64) impl.Cert { return cert(n, 2, 4) })
	check("View", far, 0, 20, func(n int64) impl.Cert { return cert(3, n, 4) })
	check("Value", far, 0, 12, func(n int64) impl.Cert { return cert(3, 2, n) })
}

// Of all sets of replicas just those of 2f+1 or more are enough, whether they prepare or commit.
func TestJustEnoughAreEnough(t *testing.T) {
	for _, f := range []int64{1, 2} {
		for set := range uint(1) << (3*f + 1) {
			from := onesOf(set)
			enough := int64(bits.OnesCount(set)) >= 2*f+1
			want := placesOf()
			if enough {
				want = placesOf(0)
			}
			ledger := ledgerOf(prepares(20, 30, 12, from...), commits(0, 1, 0, from...))
			checkCert(t, fmt.Sprint(from), f, ledger, cert(30, 20, 12), enough)
			checkDecided(t, []decidedCase{{fmt.Sprint(from), f, ledger, 1, want}})
			if got := impl.LogOf(f, ledger); !sameInts(got, want) {
				t.Errorf("f %d: LogOf what %v committed: %+v, want %+v", f, from, got, want)
			}
		}
	}
}

type decidedCase struct {
	name   string
	f      int64
	ledger []impl.Msg
	slot   int64
	want   impl.IntsResult
}

func checkDecided(t *testing.T, cases []decidedCase) {
	t.Helper()
	for _, c := range cases {
		if code := impl.LedgerFault(c.f, c.ledger); code != impl.OK {
			t.Fatalf("%s: the ledger has the code %d", c.name, code)
		}
		if got := impl.DecidedAt(c.f, c.ledger, c.slot); !sameInts(got, c.want) {
			t.Errorf("%s: f %d: DecidedAt %d: %+v, want %+v", c.name, c.f, c.slot, got, c.want)
		}
	}
}

func TestDecidedAtAsksTheSlot(t *testing.T) {
	for _, ledger := range [][]impl.Msg{nil, fullLedger(), commits(0, 1, 4, 1, 2, 3)} {
		for _, slot := range []int64{math.MinInt64, -1, 0, 31, 32, 1<<32 + 1, math.MaxInt64} {
			checkDecided(t, []decidedCase{{"no slot", 1, ledger, slot, noPlaces(impl.ErrRange)}})
		}
	}
	first, last := commits(0, 1, 4, 1, 2, 3), commits(20, 30, 12, 2, 3, 4)
	both := ledgerOf(first, last)
	checkDecided(t, []decidedCase{
		{"the first slot", 1, both, 1, placesOf(4)},
		{"the last slot", 1, both, 30, placesOf(12)},
		{"a slot without commits", 1, both, 2, placesOf()},
		{"the one ahead of the last", 1, both, 29, placesOf()},
		{"the last slot, of the first alone", 1, first, 30, placesOf()},
		{"the first slot, of the last alone", 1, last, 1, placesOf()},
	})
}

func TestDecidedAtCountsCommits(t *testing.T) {
	for _, f := range []int64{1, 2} {
		few, enough, all := firstOnes(2*f), firstOnes(2*f+1), firstOnes(3*f+1)
		next := 2*f + 1
		fewOf4 := commits(2, 3, 4, few...)
		checkDecided(t, []decidedCase{
			{"one", f, commits(2, 3, 4, 1), 3, placesOf()},
			{"2f", f, fewOf4, 3, placesOf()},
			{"2f+1", f, commits(2, 3, 4, enough...), 3, placesOf(4)},
			{"3f+1", f, commits(2, 3, 4, all...), 3, placesOf(4)},
			{"the last 2f", f, commits(2, 3, 4, lastOnes(f, 2*f)...), 3, placesOf()},
			{"the last 2f+1", f, commits(2, 3, 4, lastOnes(f, 2*f+1)...), 3, placesOf(4)},
			{"the Value 0", f, commits(2, 3, 0, enough...), 3, placesOf(0)},
			{"the Value 12", f, commits(2, 3, 12, enough...), 3, placesOf(12)},
			{"prepares", f, prepares(2, 3, 4, all...), 3, placesOf()},
			{"proposes", f, votesOf(1, 2, 3, 4, all...), 3, placesOf()},
			{"2f, and a prepare", f, ledgerOf(fewOf4, prepares(2, 3, 4, next)), 3, placesOf()},
			{"2f, and all prepares", f, ledgerOf(fewOf4, prepares(2, 3, 4, all...)), 3, placesOf()},
			{"2f, and one of another View", f, ledgerOf(fewOf4, commits(3, 3, 4, next)), 3, placesOf()},
			{"2f, and one of another Slot", f, ledgerOf(fewOf4, commits(2, 4, 4, next)), 3, placesOf()},
			{"2f, and one of another Value", f, ledgerOf(fewOf4, commits(2, 3, 5, next)), 3, placesOf()},
			{"2f, who say it in another View again", f, ledgerOf(fewOf4, commits(3, 3, 4, few...)), 3, placesOf()},
			{"2f, and a change with it", f, ledgerOf(fewOf4, msgs(changing(7, next, cert(3, 2, 4)))), 3, placesOf()},
			{"another slot", f, commits(2, 3, 4, all...), 4, placesOf()},
			{"commits without prepares, and others between", f, ledgerOf(fewOf4, manyMsgs(20), commits(2, 3, 4, next)), 3, placesOf(4)},
		})
	}
}

func TestDecidedAtInSeveralViews(t *testing.T) {
	three, other := []int64{1, 2, 3}, []int64{2, 3, 4}
	checkDecided(t, []decidedCase{
		{"three, each in a View of its own", 1, ledgerOf(commits(0, 3, 4, 1), commits(1, 3, 4, 2), commits(2, 3, 4, 3)), 3, placesOf()},
		{"three, spread over two Views", 1, ledgerOf(commits(0, 3, 4, 1, 2), commits(1, 3, 4, 3)), 3, placesOf()},
		{"all, spread over two Views", 1, ledgerOf(commits(0, 3, 4, 1, 2), commits(1, 3, 4, 3, 4)), 3, placesOf()},
		{"seven, spread over two Views", 2, ledgerOf(commits(0, 3, 4, 1, 2, 3, 4), commits(1, 3, 4, 5, 6, 7)), 3, placesOf()},
		{"one Value in two Views", 1, ledgerOf(commits(0, 3, 4, three...), commits(1, 3, 4, three...)), 3, placesOf(4)},
		{"one Value in two Views, by others", 1, ledgerOf(commits(0, 3, 4, three...), commits(20, 3, 4, other...)), 3, placesOf(4)},
		{"one Value in three Views", 2, ledgerOf(commits(0, 3, 0, 1, 2, 3, 4, 5), commits(9, 3, 0, 3, 4, 5, 6, 7), commits(20, 3, 0, 1, 3, 5, 6, 7)), 3, placesOf(0)},
		{"two Values in one View", 1, ledgerOf(commits(0, 3, 4, three...), commits(0, 3, 7, other...)), 3, placesOf(4, 7)},
		{"two Values in one View, the greater first", 1, ledgerOf(commits(0, 3, 7, three...), commits(0, 3, 4, other...)), 3, placesOf(4, 7)},
		{"two Values in two Views", 1, ledgerOf(commits(0, 3, 4, three...), commits(1, 3, 7, other...)), 3, placesOf(4, 7)},
		{"two Values in two Views, the greater in the first", 1, ledgerOf(commits(0, 3, 7, three...), commits(1, 3, 4, other...)), 3, placesOf(4, 7)},
		{"two Values in two Views, the later ahead", 1, ledgerOf(commits(1, 3, 7, three...), commits(0, 3, 4, other...)), 3, placesOf(4, 7)},
		{"two Values, mixed", 1, msgs(said(3, 0, 1, 3, 7), said(3, 0, 1, 3, 4), said(3, 0, 2, 3, 4), said(3, 0, 2, 3, 7), said(3, 0, 4, 3, 7), said(3, 0, 3, 3, 4)), 3, placesOf(4, 7)},
		{"nothing and a Value", 1, ledgerOf(commits(0, 3, 12, three...), commits(5, 3, 0, other...)), 3, placesOf(0, 12)},
		{"several Values, each in two Views", 1, ledgerOf(commits(2, 3, 9, three...), commits(1, 3, 10, three...), commits(0, 3, 2, three...), commits(5, 3, 10, other...), commits(4, 3, 2, other...), commits(3, 3, 9, other...)), 3, placesOf(2, 9, 10)},
		{"a Value with enough and one without", 1, ledgerOf(commits(0, 3, 4, 1, 2), commits(0, 3, 7, other...)), 3, placesOf(7)},
		{"a Value with enough in one View and without in another", 1, ledgerOf(commits(0, 3, 4, 1), commits(1, 3, 4, three...), commits(2, 3, 4, 4)), 3, placesOf(4)},
	})
	// All Values there are, the greatest first.
	var all []impl.Msg
	for value := int64(12); value >= 0; value-- {
		all = append(all, commits(value, 30, value, 4, 1, 2)...)
	}
	checkDecided(t, []decidedCase{{"all Values", 1, all, 30, placesOf(counting(13)...)}})
}

func TestLogOf(t *testing.T) {
	three := []int64{3, 1, 4}
	one := func(slot int64, value int64) []impl.Msg { return commits(2, slot, value, three...) }
	cases := []struct {
		name   string
		f      int64
		ledger []impl.Msg
		want   impl.IntsResult
	}{
		{"none decided", 1, nil, placesOf()},
		{"none decided, though one has commits", 1, commits(2, 1, 4, 1, 2), placesOf()},
		{"none decided, though one is prepared", 1, prepares(2, 1, 4, 1, 2, 3, 4), placesOf()},
		{"slot 1 alone", 1, one(1, 4), placesOf(4)},
		{"slot 1 alone, of the Value 0", 1, one(1, 0), placesOf(0)},
		{"slots 1 and 2", 1, ledgerOf(one(1, 4), one(2, 3)), placesOf(4, 3)},
		{"slots 1 and 2, the second first", 1, ledgerOf(one(2, 3), one(1, 4)), placesOf(4, 3)},
		{"slots 1 and 2, of one Value", 1, ledgerOf(one(1, 4), one(2, 4)), placesOf(4, 4)},
		{"slot 2 alone", 1, one(2, 3), placesOf()},
		{"slot 30 alone", 1, one(30, 3), placesOf()},
		{"slots 1 and 3", 1, ledgerOf(one(1, 4), one(3, 2)), placesOf(4)},
		{"slots 1, 3 and 4, and two commits of 2", 1, ledgerOf(one(1, 4), commits(2, 2, 3, 1, 2), one(3, 2), one(4, 1)), placesOf(4)},
		{"slots 1 to 4, with 0 between", 1, ledgerOf(one(1, 4), one(2, 0), one(3, 0), one(4, 1)), placesOf(4, 0, 0, 1)},
		{"a slot of two Values", 1, ledgerOf(one(1, 7), one(1, 4), one(2, 3)), placesOf(4, 3)},
		{"a slot of two Values, in two Views", 1, ledgerOf(commits(0, 1, 7, three...), one(1, 4), one(2, 3)), placesOf(4, 3)},
		{"a slot of 0 and a Value", 1, ledgerOf(one(1, 7), one(1, 0)), placesOf(0)},
		{"slot 2 of two Values, slot 1 of none", 1, ledgerOf(one(2, 7), one(2, 4)), placesOf()},
		{"slots in other Views", 1, ledgerOf(commits(20, 1, 1, 1, 2, 3), commits(0, 2, 2, 2, 3, 4), commits(9, 3, 3, 1, 3, 4)), placesOf(1, 2, 3)},
		{"seven, with enough", 2, ledgerOf(commits(2, 1, 4, 7, 6, 5, 4, 3), commits(2, 2, 3, 1, 2, 3, 4, 5)), placesOf(4, 3)},
		{"seven, without enough in slot 2", 2, ledgerOf(commits(2, 1, 4, 7, 6, 5, 4, 3), commits(2, 2, 3, 1, 2, 3, 4), commits(2, 3, 3, 1, 2, 3, 4, 5)), placesOf(4)},
		{"seven, none", 2, commits(2, 1, 4, 1, 2, 3, 4), placesOf()},
	}
	for _, c := range cases {
		if got := impl.LogOf(c.f, c.ledger); !sameInts(got, c.want) {
			t.Errorf("%s: f %d: LogOf: %+v, want %+v", c.name, c.f, got, c.want)
		}
	}
}

// Slots 1 to any, up to the last one, and what is left of all of them where one is missing.
func TestLogOfManySlots(t *testing.T) {
	for many := int64(0); many <= 30; many++ {
		var all, missing []impl.Msg
		for slot := int64(30); slot >= 1; slot-- {
			votes := commits(slot%21, slot, valueAt(slot), 7, 2, 6, 3, 5)
			if slot <= many {
				all = append(all, votes...)
			}
			if slot == many+1 {
				votes = votes[:4]
			}
			missing = append(missing, votes...)
		}
		for name, ledger := range map[string][]impl.Msg{"all": all, "but one": missing} {
			if got := impl.LogOf(2, ledger); !sameInts(got, placesOf(valuesTo(many)...)) {
				t.Errorf("%s: %d slots: %+v", name, many, got)
			}
		}
	}
}

func TestQuorumsAreWhatTheModelTells(t *testing.T) {
	t.Parallel()
	r := rand.New(rand.NewPCG(52, 1))
	codes := map[string]map[int64]int{"votes": {}, "decided": {}, "log": {}}
	voters, logs, values := map[int]int{}, map[int]int{}, map[int]int{}
	right, wrong := 0, 0
	for range 4000 {
		q := drawnQuorumCall(r)
		got, want := programQuorum(q), modelQuorum(q)
		if !sameQuorums(got, want) {
			t.Fatalf("of %+v:\n%+v, want\n%+v", q, got, want)
		}
		codes["votes"][got.votes.Code]++
		codes["decided"][got.decided.Code]++
		codes["log"][got.log.Code]++
		voters[len(got.votes.List)]++
		values[len(got.decided.List)]++
		logs[min(len(got.log.List), 4)]++
		if got.right {
			right++
		} else {
			wrong++
		}
	}
	for what, told := range codes {
		for _, code := range []int64{impl.OK, impl.ErrForm, impl.ErrMany, impl.ErrRange, impl.ErrNone, impl.ErrTaken} {
			if told[code] < 5 {
				t.Errorf("%s: the code %d was told only %d times", what, code, told[code])
			}
		}
	}
	for many := range 4 {
		if voters[many] < 100 || logs[many] < 100 || values[min(many, 2)] < 100 {
			t.Errorf("%d: told only %d times of voters, %d of logs, %d of values", many, voters[many], logs[many], values[many])
		}
	}
	if right < 500 || wrong < 500 || logs[4] < 100 {
		t.Errorf("only %d certificates were right, %d were not, %d logs were long", right, wrong, logs[4])
	}
}

// Promise 10: two quorums have more in common than may be bad: f+1 or more, whichever they are. With one less that is not so, and those who are not bad are enough by themselves.
func TestTwoQuorumsHaveMoreInCommonThanMayBeBad(t *testing.T) {
	for _, f := range []int64{1, 2} {
		need := impl.NeedOf(f).Value
		quorums, least := 0, map[int64]int{need: 99, need - 1: 99}
		for a := range uint(1) << (3*f + 1) {
			for b := range uint(1) << (3*f + 1) {
				common := bits.OnesCount(a & b)
				for size := range least {
					if int64(bits.OnesCount(a)) == size && int64(bits.OnesCount(b)) == size {
						least[size] = min(least[size], common)
					}
				}
				if int64(bits.OnesCount(a)) >= need && int64(bits.OnesCount(b)) >= need {
					quorums++
					if int64(common) < f+1 {
						t.Errorf("f %d: %v and %v have only %d in common", f, onesOf(a), onesOf(b), common)
					}
				}
			}
		}
		if quorums == 0 || int64(least[need]) != f+1 || int64(least[need-1]) > f || need > 3*f+1-f {
			t.Errorf("f %d: %d pairs, of which the least have %v in common", f, quorums, least)
		}
	}
}

// Promise 10: the same of what the program tells of votes: wherever two certificates of one view and slot are right, f+1 or more voted for both.
func TestTwoCertificatesHaveVotersInCommon(t *testing.T) {
	pairs := 0
	for _, f := range []int64{1, 2} {
		for a := range uint(1) << (3*f + 1) {
			for b := range uint(1) << (3*f + 1) {
				if f == 2 && (a*37+b)%5 != 0 {
					continue
				}
				ledger := ledgerOf(prepares(1, 2, 3, onesOf(a)...), prepares(1, 2, 4, onesOf(b)...))
				if !impl.CertRight(f, ledger, cert(2, 1, 3)) || !impl.CertRight(f, ledger, cert(2, 1, 4)) {
					continue
				}
				pairs++
				ones, others := impl.VotesFor(f, ledger, said(2, 1, 1, 2, 3)).List, impl.VotesFor(f, ledger, said(2, 1, 1, 2, 4)).List
				both := slices.DeleteFunc(ones, func(id int64) bool { return !slices.Contains(others, id) })
				if int64(len(both)) < f+1 {
					t.Errorf("f %d: %v and %v: only %v voted for both", f, onesOf(a), onesOf(b), both)
				}
			}
		}
	}
	if pairs < 100 {
		t.Errorf("only %d pairs", pairs)
	}
}

// Promise 10: if no more than f say two things of one slot in one view, that view has no more than one value of it; if f+1 do, it may have two.
func TestOneViewDecidesOnce(t *testing.T) {
	r := rand.New(rand.NewPCG(53, 53))
	one := 0
	for range 3000 {
		f := 1 + r.Int64N(2)
		bad := drawnVoters(r, f)
		bad = bad[:min(int(f), len(bad))]
		var ledger []impl.Msg
		for id := int64(1); id <= 3*f+1; id++ {
			says := []int64{drawn(r, []int64{3, 4, 4, 5})}
			if slices.Contains(bad, id) {
				says = []int64{3, 4, 5}
			}
			for _, value := range says {
				ledger = append(ledger, said(3, 1, id, 1, value))
			}
		}
		got := impl.DecidedAt(f, ledger, 1)
		if got.Code != impl.OK || len(got.List) > 1 {
			t.Fatalf("f %d, bad are %v: %+v of %+v", f, bad, got, ledger)
		}
		one += len(got.List)
	}
	if one < 500 || one > 2900 {
		t.Errorf("%d of 3000 were decided", one)
	}
	checkDecided(t, []decidedCase{
		{"two of four say both", 1, ledgerOf(commits(1, 1, 3, 1, 2, 3), commits(1, 1, 4, 1, 2, 4)), 1, placesOf(3, 4)},
		{"three of seven say both", 2, ledgerOf(commits(1, 1, 3, 1, 2, 3, 4, 5), commits(1, 1, 4, 1, 2, 3, 6, 7)), 1, placesOf(3, 4)},
	})
}

// Promise 10: the log is what was decided, slot by slot, up to the first one that was not.
func TestLogIsWhatWasDecided(t *testing.T) {
	r := rand.New(rand.NewPCG(54, 54))
	ended, several := 0, 0
	for range 1200 {
		f := 1 + r.Int64N(2)
		ledger := drawnPolled(r, f)
		log := impl.LogOf(f, ledger)
		var want []int64
		for slot := int64(1); slot <= 30; slot++ {
			decided := impl.DecidedAt(f, ledger, slot)
			if decided.Code != impl.OK || !modelRises(decided.List) {
				t.Fatalf("DecidedAt %d: %+v", slot, decided)
			}
			if len(decided.List) > 1 {
				several++
			}
			if len(decided.List) == 0 {
				ended++
				break
			}
			want = append(want, decided.List[0])
		}
		if !sameInts(log, placesOf(want...)) {
			t.Fatalf("f %d: LogOf %+v: %+v, want %v", f, ledger, log, want)
		}
	}
	if ended < 500 || several < 50 {
		t.Errorf("only %d logs ended, %d slots had several values", ended, several)
	}
}

func hasTwoValues(f int64, ledger []impl.Msg) bool {
	for slot := int64(1); slot <= 30; slot++ {
		if len(impl.DecidedAt(f, ledger, slot).List) > 1 {
			return true
		}
	}
	return false
}

// Promise 10: what was decided stays so, whatever is said behind it; and a log with more messages begins with what it was, wherever no slot has two values.
func TestLogsGrow(t *testing.T) {
	grew, two, longer := 0, 0, 0
	for seed := range uint64(300) {
		r := rand.New(rand.NewPCG(seed, 55))
		f := 1 + r.Int64N(2)
		ledger := drawnPolled(r, f)
		clash := hasTwoValues(f, ledger)
		if clash {
			two++
		}
		cuts := append(drawnRising(r, 6, len(ledger)+1), int64(len(ledger)))
		for i := 1; i < len(cuts); i++ {
			few, more := ledger[:cuts[i-1]], ledger[:cuts[i]]
			before, after := impl.LogOf(f, few).List, impl.LogOf(f, more).List
			if len(after) < len(before) || !clash && !slices.Equal(after[:len(before)], before) {
				t.Fatalf("f %d, %d and %d of %+v: %v, and then %v", f, len(few), len(more), ledger, before, after)
			}
			for slot := int64(1); slot <= 30; slot++ {
				then := impl.DecidedAt(f, more, slot).List
				if slices.ContainsFunc(impl.DecidedAt(f, few, slot).List, func(value int64) bool { return !slices.Contains(then, value) }) {
					t.Fatalf("f %d, %d and %d of %+v: slot %d has %v then", f, len(few), len(more), ledger, slot, then)
				}
			}
			if !clash {
				grew++
				longer += len(after) - len(before)
			}
		}
	}
	if grew < 600 || two < 20 || longer < 200 {
		t.Errorf("only %d logs grew, by %d slots; %d ledgers had a slot of two values", grew, longer, two)
	}
}

// Promise 1: every argument has an answer, however long a list is or how odd its numbers are.
func TestEveryQuorumIsAnswered(t *testing.T) {
	t.Parallel()
	far := []int64{math.MinInt64, -1, 0, 1, 2, 3, 4, 5, 7, 12, 20, 21, 30, 31, 240, math.MaxInt64}
	enough := ledgerOf(prepares(1, 1, 1, 1, 2, 3, 4), commits(1, 1, 1, 1, 2, 3, 4))
	for i, f := range far {
		for j, n := range far {
			for k, other := range far {
				odd := said(far[(i+j)%len(far)], n, other, far[(i+k)%len(far)], far[(j+k)%len(far)])
				list := odd
				list.Certs, list.Refs = make([]impl.Cert, 1<<9), []int64{n, other, math.MaxInt64}
				ledgers := [][]impl.Msg{nil, {}, enough, {odd}, {list}, append(slices.Clone(enough), odd), slices.Repeat(msgs(odd), 1<<9), fullLedger()}
				q := quorumCall{f: f, view: n, ledger: ledgers[(i+j+k)%len(ledgers)], m: odd, c: cert(n, other, n), slot: other}
				if k%2 == 0 {
					q.f, q.m = 1+int64(i)%2, list
				}
				if got, want := programQuorum(q), modelQuorum(q); !sameQuorums(got, want) {
					t.Fatalf("of %.300s: %+v, want %+v", fmt.Sprint(q), got, want)
				}
			}
		}
	}
}

// Promise 1: an answer hangs on the arguments alone, so it is the same in whatever order it is asked.
func TestQuorumAnswersHangOnArgumentsAlone(t *testing.T) {
	r := rand.New(rand.NewPCG(56, 56))
	checkAgain(t, drawnMany(r, 300, drawnQuorumCall), programQuorum, sameQuorums)
}

// drawnOwnQuorumCall draws a call of which nothing lies where anything else does.
func drawnOwnQuorumCall(r *rand.Rand) quorumCall {
	q := drawnQuorumCall(r)
	q.ledger, q.m = ownLedger(q.ledger), ownMsg(q.m)
	return q
}

func listsOfQuorum(a quorumAnswers) [][]int64 {
	return [][]int64{a.votes.List, a.decided.List, a.log.List}
}

// sharesWithCall tells whether a list lies where anything that was handed in does.
func sharesWithCall(list []int64, q quorumCall) bool {
	return sharesRoom(list, q.ledger) || slices.ContainsFunc(append(slices.Clone(q.ledger), q.m), func(m impl.Msg) bool {
		return sharesRoom(list, m.Certs) || sharesRoom(list, m.Refs)
	})
}

// Promise 1: what is answered shares no memory with what is handed in, nor one answer with another.
func TestQuorumAnswersAreNewMemory(t *testing.T) {
	t.Parallel()
	r := rand.New(rand.NewPCG(57, 57))
	told := 0
	for range 2000 {
		q := drawnOwnQuorumCall(r)
		first, second := programQuorum(q), programQuorum(q)
		all := append(listsOfQuorum(first), listsOfQuorum(second)...)
		for i, list := range all {
			if sharesWithCall(list, q) || slices.ContainsFunc(all[:i], func(other []int64) bool { return sharesRoom(list, other) }) {
				t.Fatalf("of %+v: %v shares memory", q, list)
			}
			told += len(list)
		}
		want := modelQuorum(q)
		for _, list := range listsOfQuorum(first) {
			clear(list[:cap(list)])
		}
		if !sameQuorums(second, want) || !sameQuorums(programQuorum(q), want) {
			t.Fatalf("of %+v: who writes into an answer turns another", q)
		}
		wipeLedger(q.ledger)
		wipeLedger(msgs(q.m))
		if !sameQuorums(second, want) {
			t.Fatalf("the answer turned with what was handed in: %+v, want %+v", second, want)
		}
	}
	if told < 5000 {
		t.Errorf("only %d numbers were told", told)
	}
}

// Promise 1: no call changes the ledger, the message, its Certs or its Refs that are handed in, nor what lies behind them.
func TestQuorumArgumentsStayAsTheyAre(t *testing.T) {
	r := rand.New(rand.NewPCG(58, 58))
	for range 2000 {
		q := drawnOwnQuorumCall(r)
		oldLedger, oldMsg := ownLedger(wholeLedger(q.ledger)), ownMsg(wholeMsg(q.m))
		programQuorum(q)
		if !sameLedgers(wholeLedger(q.ledger), oldLedger) || !equalMsgs(wholeMsg(q.m), oldMsg) {
			t.Fatalf("changed: %+v", q)
		}
	}
}
