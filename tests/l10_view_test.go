package tests

import (
	"fmt"
	"math"
	"math/rand/v2"
	"slices"
	"testing"

	"loop.example/g00369/impl"
)

func changesBy(view int64, from ...int64) []impl.Msg {
	var list []impl.Msg
	for _, id := range from {
		list = append(list, changing(view, id))
	}
	return list
}

// prepared are the prepares of certificates, each by enough.
func prepared(f int64, list ...impl.Cert) []impl.Msg {
	var all []impl.Msg
	for _, c := range list {
		all = append(all, prepares(c.View, c.Slot, c.Value, firstOnes(2*f+1)...)...)
	}
	return all
}

func certsResult(list ...impl.Cert) impl.CertsResult {
	return impl.CertsResult{Certs: list}
}

func noCerts(code int64) impl.CertsResult {
	return impl.CertsResult{Code: code}
}

// oneOfEachKind has a message of each kind, of one View and From.
func oneOfEachKind(view int64, from int64) []impl.Msg {
	return msgs(said(1, view, from, 1, 1), said(2, view, from, 1, 1), said(3, view, from, 1, 1), changing(view, from), beginning(view, from))
}

func checkFine(t *testing.T, name string, f int64, ledger []impl.Msg) {
	t.Helper()
	if code := impl.LedgerFault(f, ledger); code != impl.OK {
		t.Fatalf("%s: the ledger has the code %d", name, code)
	}
}

func checkChangeAt(t *testing.T, name string, f int64, ledger []impl.Msg, at int, want bool) {
	t.Helper()
	checkFine(t, name, f, ledger)
	if got := impl.ChangeRight(f, ledger, int64(at)); got != want {
		t.Errorf("%s: f %d: ChangeRight at %d: %v, want %v", name, f, at, got, want)
	}
}

func checkNewAt(t *testing.T, name string, f int64, ledger []impl.Msg, at int, want bool) {
	t.Helper()
	checkFine(t, name, f, ledger)
	if got := impl.NewRight(f, ledger, int64(at)); got != want {
		t.Errorf("%s: f %d: NewRight at %d: %v, want %v", name, f, at, got, want)
	}
}

func checkProposeAt(t *testing.T, name string, f int64, ledger []impl.Msg, place int, start int, want bool) {
	t.Helper()
	checkFine(t, name, f, ledger)
	if got := impl.ProposeRight(f, ledger, int64(place), int64(start)); got != want {
		t.Errorf("%s: f %d: ProposeRight at %d, from %d on: %v, want %v", name, f, place, start, got, want)
	}
}

// checkViewCode asks all functions, which must tell one code (those that tell a bool: false) and nothing else.
func checkViewCode(t *testing.T, name string, c viewCall, want int64) {
	t.Helper()
	if got := programView(c); !sameViews(got, viewAnswers{changes: noPlaces(want), pick: noPlaces(want), certs: noCerts(want)}) {
		t.Errorf("%s: %+v, want the code %d alone", name, got, want)
	}
}

// begun is a ledger in which all is right: of four, slot 2 was prepared, three change to View 1, it begins, and the slots 1 and 2 are proposed.
func begun() []impl.Msg {
	c := cert(2, 0, 5)
	return ledgerOf(prepared(1, c), commits(0, 2, 5, 1), msgs(changing(1, 1, c), changing(1, 2), changing(1, 3), beginning(1, 2, 4, 5, 6), said(1, 1, 2, 1, 0), said(1, 1, 2, 2, 5)))
}

// begunCall asks what is right in begun.
func begunCall() viewCall {
	return viewCall{f: 1, ledger: begun(), change: 4, begin: 7, view: 1, refs: []int64{4, 5, 6}, place: 9, start: 7, id: 1}
}

func TestViewsOfOneThatBegan(t *testing.T) {
	want := viewAnswers{true, placesOf(4, 5, 6), true, placesOf(0, 5), true, certsResult(cert(2, 0, 5))}
	if got := programView(begunCall()); !sameViews(got, want) {
		t.Errorf("%+v, want %+v", got, want)
	}
}

// wrongViews are calls in which all else is wrong, too: f and the ledger are asked ahead of that.
func wrongViews(f int64, ledger []impl.Msg) []viewCall {
	fine, wrong := begunCall(), viewCall{change: -1, begin: 999, view: 21, refs: alike(-1, 99), place: -7, start: math.MaxInt64, id: 0}
	var calls []viewCall
	for _, c := range []viewCall{fine, wrong, {}} {
		c.f, c.ledger = f, ledger
		calls = append(calls, c)
	}
	return calls
}

func TestViewsAskFFirst(t *testing.T) {
	ledgers := [][]impl.Msg{nil, begun(), manyMsgs(240), make([]impl.Msg, 241), msgs(newcomer, newcomer), msgs(beginning(1, 1, 0)), msgs(impl.Msg{})}
	for _, f := range noFs {
		for i, ledger := range ledgers {
			for _, c := range wrongViews(f, ledger) {
				checkViewCode(t, fmt.Sprintf("f %d, ledger %d", f, i), c, impl.ErrRange)
			}
		}
	}
	// The same ledger, of both f: what is enough for the one is not for the other.
	seven := begunCall()
	seven.f = 2
	want := viewAnswers{changes: placesOf(5, 6), pick: placesOf(0, 5), certs: certsResult(cert(2, 0, 5))}
	if got := programView(seven); !sameViews(got, want) {
		t.Errorf("three of seven: %+v, want %+v", got, want)
	}
}

// In a ledger with a fault nothing is right, even if it stands ahead of the fault; its code comes ahead of all others.
func TestViewsAskTheLedgerFirst(t *testing.T) {
	check := func(name string, f int64, ledger []impl.Msg, want int64) {
		t.Helper()
		for _, c := range wrongViews(f, ledger) {
			checkViewCode(t, name, c, want)
		}
	}
	for _, l := range faultyLedgers() {
		check(l.name, l.f, l.ledger, l.want)
	}
	for _, c := range faultyMsgs() {
		if c.f == 1 {
			check("begun, and behind it "+c.name, 1, ledgerOf(begun(), msgs(c.m)), c.want)
		}
	}
	check("begun, one of them twice", 1, ledgerOf(begun(), begun()[:1]), impl.ErrTaken)
	check("begun, and one of a replica that is none", 1, ledgerOf(begun(), changesBy(1, 5)), impl.ErrRange)
	check("begun, and one that names itself", 1, ledgerOf(begun(), msgs(beginning(1, 2, 10))), impl.ErrNone)
	check("begun, and too many", 1, ledgerOf(begun(), manyMsgs(231)), impl.ErrMany)
	// Nothing of this is so of as many as may be.
	full := begunCall()
	full.ledger = ledgerOf(full.ledger, manyMsgs(230))
	if got, want := programView(full), modelView(full); got.changes.Code != impl.OK || !got.begin || !got.propose || !sameViews(got, want) {
		t.Errorf("240 messages: %+v, want %+v", got, want)
	}
}

func TestViewsOfNothing(t *testing.T) {
	for _, f := range []int64{1, 2} {
		for _, ledger := range [][]impl.Msg{nil, {}} {
			for _, at := range []int64{math.MinInt64, -1, 0, 1, math.MaxInt64} {
				c := viewCall{f: f, ledger: ledger, change: at, begin: at, view: 1, place: at, start: -1, id: 1}
				checkViewCode(t, "no message", c, impl.OK)
				if got := impl.PickOf(f, ledger, []int64{at}); !sameInts(got, noPlaces(impl.ErrNone)) {
					t.Errorf("PickOf %d of no message: %+v", at, got)
				}
			}
		}
	}
}

// beyond are numbers that are no place of so many messages.
func beyond(many int) []int {
	return []int{math.MinInt64, -2, -1, many, many + 1, 239, 240, 1 << 32, math.MaxInt64}
}

func TestPlacesOfChanges(t *testing.T) {
	ledger := ledgerOf(changesBy(1, 1), prepared(1, cert(1, 0, 1)), changesBy(2, 3))
	for _, at := range beyond(len(ledger)) {
		checkChangeAt(t, "no place", 1, ledger, at, false)
	}
	checkChangeAt(t, "the first place", 1, ledger, 0, true)
	checkChangeAt(t, "the last place", 1, ledger, 4, true)
	for at := 1; at <= 3; at++ {
		checkChangeAt(t, "a prepare", 1, ledger, at, false)
	}
	checkChangeAt(t, "the last place of one", 1, ledger[:1], 0, true)
	checkChangeAt(t, "the place behind one", 1, ledger[:1], 1, false)
	checkChangeAt(t, "the last place of 240", 1, ledgerOf(manyMsgs(239), changesBy(20, 4)), 239, true)
	for _, view := range []int64{0, 1, 20} {
		for at, m := range oneOfEachKind(view, 1) {
			checkChangeAt(t, fmt.Sprintf("kind %d of View %d", m.Kind, view), 1, oneOfEachKind(view, 1), at, m.Kind == impl.MsgChange && view > 0)
			checkChangeAt(t, fmt.Sprintf("kind %d of View %d alone", m.Kind, view), 2, msgs(m), 0, m.Kind == impl.MsgChange && view > 0)
		}
	}
}

func TestChangeRightAsksEachOfCerts(t *testing.T) {
	for _, f := range []int64{1, 2} {
		c := cert(2, 3, 5)
		few, enough, all := firstOnes(2*f), firstOnes(2*f+1), firstOnes(3*f+1)
		withOne := func(name string, want bool, parts ...[]impl.Msg) {
			t.Helper()
			votes := ledgerOf(parts...)
			checkChangeAt(t, name, f, ledgerOf(votes, msgs(changing(4, 1, c))), len(votes), want)
			checkChangeAt(t, name+", behind the change", f, ledgerOf(msgs(changing(4, 1, c)), votes), 0, want)
			checkChangeAt(t, name+", in the last View", f, ledgerOf(msgs(changing(20, 1, c)), votes), 0, want)
		}
		withOne("no prepares", false)
		withOne("2f prepares", false, prepares(3, 2, 5, few...))
		withOne("2f+1 prepares", true, prepares(3, 2, 5, enough...))
		withOne("3f+1 prepares", true, prepares(3, 2, 5, all...))
		withOne("the last 2f", false, prepares(3, 2, 5, lastOnes(f, 2*f)...))
		withOne("the last 2f+1", true, prepares(3, 2, 5, lastOnes(f, 2*f+1)...))
		withOne("2f, and one of another View", false, prepares(3, 2, 5, few...), prepares(2, 2, 5, 2*f+1))
		withOne("2f, and a commit", false, prepares(3, 2, 5, few...), commits(3, 2, 5, 2*f+1))
		withOne("commits alone", false, commits(3, 2, 5, all...))
		withOne("prepares of another Slot", false, prepares(3, 1, 5, all...))
		withOne("prepares of another View", false, prepares(2, 2, 5, all...))
		withOne("prepares of the View itself", false, prepares(4, 2, 5, all...))
		withOne("prepares of another Value", false, prepares(3, 2, 4, all...))
		three := certs(cert(1, 0, 0), cert(2, 3, 5), cert(30, 1, 12))
		for set := range uint(8) {
			var votes []impl.Msg
			for i, c := range three {
				if set&(1<<i) != 0 {
					votes = append(votes, prepared(f, c)...)
				} else {
					votes = append(votes, prepares(c.View, c.Slot, c.Value, few...)...)
				}
			}
			checkChangeAt(t, fmt.Sprintf("three, of which %03b are right", set), f, ledgerOf(votes, msgs(changing(4, 1, three...))), len(votes), set == 7)
		}
	}
	// As many as there may be, and one of these without enough.
	thirty := certsUpTo(30)
	checkChangeAt(t, "30 that are right", 2, ledgerOf(msgs(changing(1, 7, thirty...)), prepared(2, thirty...)), 0, true)
	for i := range thirty {
		votes := slices.Delete(prepared(2, thirty...), 5*i+i%5, 5*i+i%5+1)
		checkChangeAt(t, fmt.Sprintf("30, of which place %d is not right", i), 2, ledgerOf(msgs(changing(1, 7, thirty...)), votes), 0, false)
	}
}

type changesCase struct {
	name   string
	f      int64
	ledger []impl.Msg
	view   int64
	want   impl.IntsResult
}

func checkChanges(t *testing.T, cases []changesCase) {
	t.Helper()
	for _, c := range cases {
		checkFine(t, c.name, c.f, c.ledger)
		if got := impl.ChangesFor(c.f, c.ledger, c.view); !sameInts(got, c.want) {
			t.Errorf("%s: f %d: ChangesFor %d: %+v, want %+v", c.name, c.f, c.view, got, c.want)
		}
	}
}

func TestChangesForAsksTheView(t *testing.T) {
	all := ledgerOf(changesBy(0, 1, 2, 3), changesBy(1, 1, 2, 3), changesBy(20, 1, 2, 3))
	for _, ledger := range [][]impl.Msg{nil, all, manyMsgs(240)} {
		for _, view := range []int64{math.MinInt64, -1, 21, 22, 1<<32 + 1, math.MaxInt64} {
			checkChanges(t, []changesCase{{"no view", 1, ledger, view, noPlaces(impl.ErrRange)}})
		}
	}
	checkChanges(t, []changesCase{
		{"View 0, to which nobody changes", 1, all, 0, placesOf()},
		{"View 1", 1, all, 1, placesOf(3, 4, 5)},
		{"a View that has none", 1, all, 2, placesOf()},
		{"the one ahead of the last", 1, all, 19, placesOf()},
		{"the last View", 1, all, 20, placesOf(6, 7, 8)},
		{"View 0 of nothing", 1, nil, 0, placesOf()},
		{"the last View of nothing", 2, nil, 20, placesOf()},
	})
}

func TestChangesForTakesTheFirst(t *testing.T) {
	for _, f := range []int64{1, 2} {
		need := int(2*f + 1)
		for many := int64(0); many <= 3*f+1; many++ {
			want := placesOf(counting(min(int(many), need))...)
			checkChanges(t, []changesCase{
				{fmt.Sprintf("%d, from the first one on", many), f, changesBy(3, firstOnes(many)...), 3, want},
				{fmt.Sprintf("%d, from the last one on", many), f, changesBy(3, lastOnes(f, many)...), 3, want},
			})
		}
	}
	c, wrong := cert(2, 0, 5), cert(2, 0, 6)
	votes := prepared(1, c)
	checkChanges(t, []changesCase{
		{"one twice, both right", 1, ledgerOf(votes, msgs(changing(1, 2), changing(1, 2, c), changing(1, 3))), 1, placesOf(3, 5)},
		{"one twice, with Certs first", 1, ledgerOf(votes, msgs(changing(1, 2, c), changing(1, 2), changing(1, 3))), 1, placesOf(3, 5)},
		{"one twice, the first not right", 1, ledgerOf(votes, msgs(changing(1, 2, wrong), changing(1, 2), changing(1, 3))), 1, placesOf(4, 5)},
		{"one twice, the second not right", 1, ledgerOf(votes, msgs(changing(1, 2), changing(1, 2, wrong), changing(1, 3))), 1, placesOf(3, 5)},
		{"one thrice, the middle right", 1, ledgerOf(votes, msgs(changing(1, 2, wrong), changing(1, 2, c), changing(1, 2))), 1, placesOf(4)},
		{"one with others between", 1, ledgerOf(votes, msgs(changing(1, 2, wrong), changing(1, 3), changing(1, 2), changing(1, 3, c), changing(1, 1))), 1, placesOf(4, 5, 7)},
		{"one twice, behind enough", 1, ledgerOf(changesBy(1, 4, 2, 3), votes, msgs(changing(1, 1), changing(1, 4, c))), 1, placesOf(0, 1, 2)},
		{"one that is not right alone", 1, ledgerOf(votes, msgs(changing(1, 2, wrong))), 1, placesOf()},
		{"one that is not right of four", 1, ledgerOf(votes, msgs(changing(1, 1), changing(1, 2, wrong), changing(1, 3), changing(1, 4))), 1, placesOf(3, 5, 6)},
		{"another View between", 1, msgs(changing(1, 1), changing(2, 2), changing(1, 2), changing(2, 1), changing(1, 3), changing(2, 3)), 1, placesOf(0, 2, 4)},
		{"another View between, the other one", 1, msgs(changing(1, 1), changing(2, 2), changing(1, 2), changing(2, 1), changing(1, 3), changing(2, 3)), 2, placesOf(1, 3, 5)},
		{"one that changed to another View ahead", 1, msgs(changing(2, 1), changing(1, 1), changing(3, 1)), 1, placesOf(1)},
		{"other kinds between", 1, ledgerOf(oneOfEachKind(1, 1), oneOfEachKind(1, 2), oneOfEachKind(1, 4)), 1, placesOf(3, 8, 13)},
		{"prepares behind all", 1, ledgerOf(msgs(changing(1, 2, c), changing(1, 4, wrong)), votes), 1, placesOf(0)},
		{"seven, of which one is not right", 2, ledgerOf(prepared(2, c), msgs(changing(1, 7, c), changing(1, 6, wrong), changing(1, 5, c)), changesBy(1, 4, 3, 2, 1)), 1, placesOf(5, 7, 8, 9, 10)},
		{"seven, without enough for Certs", 2, ledgerOf(votes, msgs(changing(1, 7, c), changing(1, 6))), 1, placesOf(4)},
		{"the last of 240", 1, ledgerOf(changesBy(19, 1), manyMsgs(237), changesBy(19, 3, 4)), 19, placesOf(0, 238, 239)},
	})
}

func TestPlacesOfNews(t *testing.T) {
	three := changesBy(1, 1, 2, 3)
	ledger := ledgerOf(three, msgs(beginning(1, 2, 0, 1, 2), newcomer, changing(1, 4), beginning(1, 2, 0, 1, 5)))
	for _, at := range beyond(len(ledger)) {
		checkNewAt(t, "no place", 1, ledger, at, false)
	}
	for at := range ledger {
		checkNewAt(t, fmt.Sprintf("kind %d", ledger[at].Kind), 1, ledger, at, at == 3 || at == 6)
	}
	checkNewAt(t, "the place behind all", 1, ledger[:3], 3, false)
	checkNewAt(t, "the first place", 1, msgs(beginning(1, 2)), 0, false)
	for at, m := range oneOfEachKind(1, 2) {
		checkNewAt(t, fmt.Sprintf("kind %d of the primary", m.Kind), 1, ledgerOf(changesBy(1, 1, 3, 4), oneOfEachKind(1, 2)), 3+at, false)
	}
	checkNewAt(t, "the last of 240", 1, ledgerOf(three, manyMsgs(236), msgs(beginning(1, 2, 0, 1, 2))), 239, true)
}

func TestNewRightAsksViewAndFrom(t *testing.T) {
	for _, f := range []int64{1, 2} {
		for view := int64(0); view <= 20; view++ {
			for from := int64(1); from <= 3*f+1; from++ {
				ledger := ledgerOf(changesBy(view, firstOnes(3*f+1)...), msgs(beginning(view, from, counting(int(2*f+1))...)))
				right := view > 0 && from == impl.PrimaryOf(f, view).Value
				checkNewAt(t, fmt.Sprintf("View %d, From %d", view, from), f, ledger, len(ledger)-1, right)
			}
		}
	}
	checkNewAt(t, "View 0 by changes to View 1", 1, ledgerOf(changesBy(1, 1, 2, 3), msgs(beginning(0, 1, 0, 1, 2))), 3, false)
	checkNewAt(t, "View 1 by changes to View 0", 1, ledgerOf(changesBy(0, 1, 2, 3), msgs(beginning(1, 2, 0, 1, 2))), 3, false)
	checkNewAt(t, "View 5 by changes to View 1, of one primary", 1, ledgerOf(changesBy(1, 1, 2, 3), msgs(beginning(5, 2, 0, 1, 2))), 3, false)
	checkNewAt(t, "the primary of four among seven", 2, ledgerOf(changesBy(4, 1, 2, 3, 4, 5), msgs(beginning(4, 1, 0, 1, 2, 3, 4))), 5, false)
	checkNewAt(t, "a primary that does not change itself", 1, ledgerOf(changesBy(1, 1, 3, 4), msgs(beginning(1, 2, 0, 1, 2))), 3, true)
}

// Of all sets of changes just those of 2f+1 or more let a view begin.
func TestNewRightCountsRefs(t *testing.T) {
	for _, f := range []int64{1, 2} {
		changes := changesBy(1, lastOnes(f, 3*f+1)...)
		for set := range uint(1) << (3*f + 1) {
			refs := onesOf(set)
			for i := range refs {
				refs[i]--
			}
			ledger := ledgerOf(changes, msgs(beginning(1, 2, refs...)))
			checkNewAt(t, fmt.Sprint(refs), f, ledger, len(changes), int64(len(refs)) >= 2*f+1)
		}
	}
}

// One of Refs that is not so is enough to be not right, even if there are enough without it.
func TestNewRightAsksEachOfRefs(t *testing.T) {
	for _, f := range []int64{1, 2} {
		c, wrong := cert(2, 0, 5), cert(2, 0, 6)
		votes := prepared(f, c)
		rest := votes[1:]
		others := []struct {
			name  string
			m     impl.Msg
			right bool
		}{
			{"a change", changing(1, 1), true},
			{"a change with Certs", changing(1, 1, c), true},
			{"a propose", said(1, 1, 1, 1, 1), false},
			{"a prepare", said(2, 1, 1, 1, 1), false},
			{"a commit", said(3, 1, 1, 1, 1), false},
			{"a new", beginning(1, 1), false},
			{"a change of a View below", changing(0, 1), false},
			{"a change of a View above", changing(2, 1), false},
			{"a change of that primary's next View", changing(2+3*f, 1), false},
			{"a change that is not right", changing(1, 1, wrong), false},
			{"a change that is not right behind one that is", changing(1, 1, cert(1, 0, 5), c), false},
			{"a second change of the first From", changing(1, 3*f+1, c), false},
			{"a second change of the next From", changing(1, 3*f, c), false},
		}
		for _, o := range others {
			for _, many := range []int64{2 * f, 3 * f} {
				fine := changesBy(1, lastOnes(f, many)...)
				for at := range len(fine) + 1 {
					changes := slices.Insert(slices.Clone(fine), at, o.m)
					ledger := ledgerOf(votes[:1], changes, rest, msgs(beginning(1, 2, counting(int(many) + 2)[1:]...)))
					checkNewAt(t, fmt.Sprintf("%s at %d of %d", o.name, at, many+1), f, ledger, len(ledger)-1, o.right)
				}
			}
		}
	}
}

// A change to which no Ref leads is not asked, right or not; and a view may begin twice.
func TestNewRightAsksRefsAlone(t *testing.T) {
	wrong := changing(1, 4, cert(1, 0, 1))
	ledger := ledgerOf(changesBy(1, 1), msgs(wrong), changesBy(1, 2, 3, 4), msgs(beginning(1, 2, 0, 2, 3), beginning(1, 2, 0, 1, 2, 3), beginning(1, 2, 0, 2, 3, 4), beginning(1, 2, 2, 3, 4), beginning(1, 2, 1, 2, 3)))
	for i, want := range []bool{true, false, true, true, false} {
		checkNewAt(t, "one of several", 1, ledger, 5+i, want)
	}
}

type pickCase struct {
	name   string
	f      int64
	ledger []impl.Msg
	refs   []int64
	want   impl.IntsResult
}

func checkPicks(t *testing.T, cases []pickCase) {
	t.Helper()
	for _, c := range cases {
		checkFine(t, c.name, c.f, c.ledger)
		if got := impl.PickOf(c.f, c.ledger, c.refs); !sameInts(got, c.want) {
			t.Errorf("%s: f %d: PickOf %v: %+v, want %+v", c.name, c.f, c.refs, got, c.want)
		}
	}
}

func TestPickOfAsksRefs(t *testing.T) {
	ledger := ledgerOf(oneOfEachKind(1, 1), msgs(changing(1, 2, cert(1, 0, 7))))
	refs := func(list ...int64) []int64 { return list }
	checkPicks(t, []pickCase{
		{"no refs", 1, ledger, nil, placesOf()},
		{"an empty list", 1, ledger, refs(), placesOf()},
		{"a propose", 1, ledger, refs(0), noPlaces(impl.ErrNone)},
		{"a prepare", 1, ledger, refs(1), noPlaces(impl.ErrNone)},
		{"a commit", 1, ledger, refs(2), noPlaces(impl.ErrNone)},
		{"a change without Certs", 1, ledger, refs(3), placesOf()},
		{"a new", 1, ledger, refs(4), noPlaces(impl.ErrNone)},
		{"the last place", 1, ledger, refs(5), placesOf(7)},
		{"one that is no change behind some", 1, ledger, refs(3, 5, 0), noPlaces(impl.ErrNone)},
		{"one that is no change ahead of some", 1, ledger, refs(4, 3, 5), noPlaces(impl.ErrNone)},
		{"one that is no place and one that is no change", 1, ledger, refs(6, 0), noPlaces(impl.ErrNone)},
		{"one that is no change and one that is no place", 1, ledger, refs(0, -1), noPlaces(impl.ErrNone)},
		{"3f+1", 1, ledger, refs(3, 5, 3, 5), placesOf(7)},
		{"3f+2", 1, ledger, refs(3, 5, 3, 5, 3), noPlaces(impl.ErrMany)},
		{"3f+2 of one place", 1, ledger, alike(5, 5), noPlaces(impl.ErrMany)},
		{"as many of seven", 2, ledger, refs(3, 5, 3, 5, 3), placesOf(7)},
		{"3f+1 of seven", 2, ledger, alike(5, 7), placesOf(7)},
		{"3f+2 of seven", 2, ledger, alike(5, 8), noPlaces(impl.ErrMany)},
		{"3f+1 that are none", 1, ledger, alike(-1, 4), noPlaces(impl.ErrNone)},
		{"3f+2, of which the first is none", 1, ledger, refs(-1, 3, 3, 3, 3), noPlaces(impl.ErrMany)},
		{"3f+2, of which the last is none", 1, ledger, refs(3, 3, 3, 3, 0), noPlaces(impl.ErrMany)},
		{"very many", 1, ledger, alike(3, 1<<12), noPlaces(impl.ErrMany)},
		{"3f+2 of nothing", 1, nil, alike(0, 5), noPlaces(impl.ErrMany)},
	})
	for _, at := range beyond(len(ledger)) {
		for _, list := range [][]int64{{int64(at)}, {int64(at), 5, 3}, {5, int64(at), 3}, {5, 3, int64(at)}} {
			checkPicks(t, []pickCase{{"no place", 1, ledger, list, noPlaces(impl.ErrNone)}})
		}
	}
	checkPicks(t, []pickCase{
		{"the first place", 1, msgs(changing(1, 1, cert(1, 0, 3))), refs(0), placesOf(3)},
		{"the last of 240", 1, ledgerOf(manyMsgs(239), msgs(changing(20, 4, cert(1, 0, 3)))), refs(239), placesOf(3)},
		{"a change of View 0", 1, changesBy(0, 1), refs(0), placesOf()},
	})
}

func TestPickOf(t *testing.T) {
	refs := func(list ...int64) []int64 { return list }
	one := func(list ...impl.Cert) impl.Msg { return changing(9, 1, list...) }
	other := func(list ...impl.Cert) impl.Msg { return changing(9, 2, list...) }
	third := func(list ...impl.Cert) impl.Msg { return changing(9, 3, list...) }
	checkPicks(t, []pickCase{
		{"changes without Certs", 1, msgs(one(), other(), third()), refs(0, 1, 2), placesOf()},
		{"slot 1", 1, msgs(one(cert(1, 0, 4))), refs(0), placesOf(4)},
		{"slot 3 alone", 1, msgs(one(cert(3, 0, 4))), refs(0), placesOf(0, 0, 4)},
		{"slot 30 alone", 1, msgs(one(cert(30, 0, 4))), refs(0), placesOf(append(alike(0, 29), 4)...)},
		{"slots 1 and 4", 1, msgs(one(cert(1, 0, 4), cert(4, 0, 5))), refs(0), placesOf(4, 0, 0, 5)},
		{"slots of several", 1, msgs(one(cert(3, 0, 4)), other(cert(1, 0, 5)), third(cert(5, 0, 6))), refs(0, 1, 2), placesOf(5, 0, 4, 0, 6)},
		{"slots of several, turned about", 1, msgs(one(cert(3, 0, 4)), other(cert(1, 0, 5)), third(cert(5, 0, 6))), refs(2, 0, 1), placesOf(5, 0, 4, 0, 6)},
		{"the greater View behind", 1, msgs(one(cert(2, 0, 4)), other(cert(2, 1, 5))), refs(0, 1), placesOf(0, 5)},
		{"the greater View ahead", 1, msgs(one(cert(2, 1, 5)), other(cert(2, 0, 4))), refs(0, 1), placesOf(0, 5)},
		{"the greater View ahead by refs that fall", 1, msgs(one(cert(2, 0, 4)), other(cert(2, 1, 5))), refs(1, 0), placesOf(0, 5)},
		{"the greatest View in the middle", 1, msgs(one(cert(1, 3, 4)), other(cert(1, 8, 5)), third(cert(1, 7, 6))), refs(0, 1, 2), placesOf(5)},
		{"Views as 2 and 10", 1, msgs(changing(11, 1, cert(1, 2, 4)), changing(11, 2, cert(1, 10, 5))), refs(0, 1), placesOf(5)},
		{"the last View that may be", 1, msgs(changing(20, 1, cert(1, 18, 4)), changing(20, 2, cert(1, 19, 5)), changing(20, 3, cert(1, 0, 6))), refs(0, 1, 2), placesOf(5)},
		{"one View, two Values", 1, msgs(one(cert(1, 3, 7)), other(cert(1, 3, 4))), refs(0, 1), placesOf(7)},
		{"one View, two Values, the less first", 1, msgs(one(cert(1, 3, 4)), other(cert(1, 3, 7))), refs(0, 1), placesOf(4)},
		{"one View, two Values, by refs that fall", 1, msgs(one(cert(1, 3, 4)), other(cert(1, 3, 7))), refs(1, 0), placesOf(7)},
		{"one View, two Values, behind a View below", 1, msgs(one(cert(1, 2, 1)), other(cert(1, 3, 7)), third(cert(1, 3, 4))), refs(0, 1, 2), placesOf(7)},
		{"the Value 0 of the greater View", 1, msgs(one(cert(1, 2, 4)), other(cert(1, 3, 0))), refs(0, 1), placesOf(0)},
		{"the Value 0 of the View below", 1, msgs(one(cert(1, 2, 0)), other(cert(1, 3, 4))), refs(0, 1), placesOf(4)},
		{"the Value 0 of one View first", 1, msgs(one(cert(1, 3, 0)), other(cert(1, 3, 4))), refs(0, 1), placesOf(0)},
		{"the Value 0 in the last slot", 1, msgs(one(cert(1, 3, 4), cert(3, 0, 0))), refs(0), placesOf(4, 0, 0)},
		{"the Value 0 alone, in View 0", 1, msgs(one(cert(2, 0, 0))), refs(0), placesOf(0, 0)},
		{"the Value 12", 1, msgs(one(cert(1, 0, 12))), refs(0), placesOf(12)},
		{"each slot by its own newest", 1, msgs(one(cert(1, 5, 1), cert(2, 1, 2), cert(3, 3, 3)), other(cert(1, 4, 4), cert(2, 2, 5), cert(3, 3, 6))), refs(0, 1), placesOf(1, 5, 3)},
		{"the same place twice", 1, msgs(one(cert(2, 0, 4))), refs(0, 0), placesOf(0, 4)},
		{"the same place twice, with another between", 1, msgs(one(cert(2, 3, 4)), other(cert(2, 3, 5))), refs(1, 0, 1), placesOf(0, 5)},
		{"changes of other Views", 1, msgs(changing(2, 1, cert(1, 1, 4)), changing(9, 1, cert(1, 0, 5)), changing(20, 2)), refs(0, 1, 2), placesOf(4)},
		{"two changes of one From", 1, msgs(one(cert(1, 0, 4)), one(cert(1, 1, 5))), refs(0, 1), placesOf(5)},
		{"a change that no ref names", 1, msgs(one(cert(1, 0, 4)), other(cert(1, 8, 5), cert(9, 0, 9))), refs(0), placesOf(4)},
		{"all of seven", 2, msgs(one(cert(1, 1, 1)), other(cert(2, 1, 2)), third(cert(3, 1, 3)), changing(9, 4, cert(4, 1, 4)), changing(9, 5, cert(5, 1, 5)), changing(9, 6, cert(6, 1, 6)), changing(9, 7, cert(1, 2, 7))), counting(7), placesOf(7, 2, 3, 4, 5, 6)},
	})
	var thirty []impl.Cert
	for slot := int64(1); slot <= 30; slot++ {
		thirty = append(thirty, cert(slot, slot%9, valueAt(slot)))
	}
	checkPicks(t, []pickCase{{"all slots", 1, msgs(one(thirty...)), refs(0), placesOf(valuesTo(30)...)}})
}

// What a view takes over at start in the tests of ProposeRight: slot 2 has 5, slot 4 has 0, the slots 1 and 3 have nothing.
func takeover(f int64) []impl.Msg {
	two, four := cert(2, 0, 5), cert(4, 0, 0)
	all := ledgerOf(prepared(f, two, four), msgs(changing(1, 1, two), changing(1, 2, four)), changesBy(1, firstOnes(3*f + 1)[2:]...))
	var refs []int64
	for at, m := range all {
		if m.Kind == impl.MsgChange {
			refs = append(refs, int64(at))
		}
	}
	return append(all, beginning(1, 2, refs...))
}

func TestProposeRightBehindANewView(t *testing.T) {
	for _, f := range []int64{1, 2} {
		ledger := takeover(f)
		start := len(ledger) - 1
		checkNewAt(t, "the start", f, ledger, start, true)
		right := map[int64]int64{1: 0, 2: 5, 3: 0, 4: 0}
		for slot := int64(1); slot <= 30; slot++ {
			for value := int64(0); value <= 12; value++ {
				told, taken := right[slot]
				want := taken && value == told || !taken && value > 0
				proposed := append(slices.Clone(ledger), said(1, 1, 2, slot, value))
				name := fmt.Sprintf("slot %d, Value %d", slot, value)
				checkProposeAt(t, name, f, proposed, start+1, start, want)
				checkProposeAt(t, name+", without a start", f, proposed, start+1, -1, false)
				checkProposeAt(t, name+", as if it began itself", f, proposed, start+1, start+1, false)
			}
		}
		for from := int64(1); from <= 3*f+1; from++ {
			for _, m := range msgs(said(1, 1, from, 2, 5), said(1, 1, from, 5, 5)) {
				checkProposeAt(t, fmt.Sprintf("From %d", from), f, append(slices.Clone(ledger), m), start+1, start, from == 2)
				checkProposeAt(t, fmt.Sprintf("From %d, ahead of another", from), f, append(slices.Clone(ledger), newcomer, m), start+2, start, from == 2)
			}
		}
		for at, m := range ledgerOf(ledger, msgs(said(2, 1, 2, 2, 5), said(3, 1, 2, 2, 5))) {
			checkProposeAt(t, fmt.Sprintf("kind %d", m.Kind), f, ledgerOf(ledger, msgs(said(2, 1, 2, 2, 5), said(3, 1, 2, 2, 5))), at, start, false)
		}
	}
}

// Who stands first in the ledger, what is proposed or that with which its view began, is all one.
func TestProposeRightAheadOfItsStart(t *testing.T) {
	ledger := ledgerOf(msgs(said(1, 1, 2, 1, 3)), changesBy(1, 1, 2, 3), msgs(beginning(1, 2, 1, 2, 3)))
	checkProposeAt(t, "a start behind it", 1, ledger, 0, 4, true)
	checkProposeAt(t, "no start", 1, ledger, 0, -1, false)
}

func TestProposeRightAsksTheStart(t *testing.T) {
	c := cert(1, 0, 9)
	ledger := ledgerOf(
		changesBy(1, 1, 2, 3), changesBy(5, 1, 2, 3), changesBy(2, 1, 2, 3), msgs(changing(1, 4, c)),
		msgs(beginning(1, 2, 0, 1, 2), beginning(5, 2, 3, 4, 5), beginning(2, 3, 6, 7, 8), beginning(1, 2, 0, 1), beginning(1, 3, 0, 1, 2), beginning(1, 2, 0, 1, 9), beginning(0, 1, 0, 1, 2)),
		msgs(said(1, 1, 2, 1, 7), said(1, 5, 2, 1, 7), said(1, 2, 3, 1, 7), said(1, 0, 1, 1, 7), said(1, 3, 4, 1, 7)))
	// Which start is right for the proposes at the places 17 to 21, if any.
	right := map[int]int{17: 10, 18: 11, 19: 12, 20: -1}
	for place := 17; place <= 21; place++ {
		for start := -3; start <= len(ledger)+2; start++ {
			only, any := right[place]
			checkProposeAt(t, "a start", 1, ledger, place, start, any && start == only)
		}
		for _, start := range beyond(len(ledger)) {
			checkProposeAt(t, "a far start", 1, ledger, place, start, place == 20 && start == -1)
		}
	}
	for _, place := range beyond(len(ledger)) {
		for _, start := range []int{-1, 10, 11, 12} {
			checkProposeAt(t, "no place", 1, ledger, place, start, false)
		}
	}
	// With enough prepares of c the change with it is right, and so is the start that names it: it takes over slot 1.
	more := ledgerOf(ledger, prepared(1, c), msgs(said(1, 1, 2, 1, 9)))
	checkProposeAt(t, "another Value than that taken over", 1, more, 17, 15, false)
	checkProposeAt(t, "the Value taken over", 1, more, len(more)-1, 15, true)
	checkProposeAt(t, "that Value, by a start that takes over nothing", 1, more, len(more)-1, 10, true)
}

func TestProposeRightInTheFirstView(t *testing.T) {
	for _, f := range []int64{1, 2} {
		for from := int64(1); from <= 3*f+1; from++ {
			for slot := int64(1); slot <= 30; slot++ {
				for _, value := range []int64{0, 1, 12} {
					ledger := ledgerOf(changesBy(0, firstOnes(3*f+1)...), msgs(beginning(0, 1, counting(int(3*f+1))...), said(1, 0, from, slot, value)))
					place := len(ledger) - 1
					name := fmt.Sprintf("From %d, slot %d, Value %d", from, slot, value)
					checkProposeAt(t, name, f, ledger, place, -1, from == 1 && value > 0)
					for _, start := range []int{-2, 0, 1, place - 1, place, place + 1} {
						checkProposeAt(t, name, f, ledger, place, start, false)
					}
				}
			}
		}
		for at, m := range oneOfEachKind(0, 1) {
			checkProposeAt(t, fmt.Sprintf("kind %d", m.Kind), f, oneOfEachKind(0, 1), at, -1, m.Kind == impl.MsgPropose)
		}
	}
	checkProposeAt(t, "the first place", 1, msgs(said(1, 0, 1, 1, 1)), 0, -1, true)
	checkProposeAt(t, "the last of 240", 1, ledgerOf(manyMsgs(239), msgs(said(1, 0, 1, 30, 12))), 239, -1, true)
	// The first view has no certificates ahead, whatever was changed behind it.
	checkProposeAt(t, "with changes behind", 1, append(begun(), said(1, 0, 1, 2, 9)), 10, -1, true)
}

// Each view has its own primary and its own start.
func TestProposeRightInEachView(t *testing.T) {
	for _, f := range []int64{1, 2} {
		for view := int64(1); view <= 20; view++ {
			for from := int64(1); from <= 3*f+1; from++ {
				ledger := ledgerOf(changesBy(view, firstOnes(2*f+1)...), msgs(beginning(view, impl.PrimaryOf(f, view).Value, counting(int(2*f+1))...), said(1, view, from, 1, 1)))
				checkProposeAt(t, fmt.Sprintf("View %d, From %d", view, from), f, ledger, len(ledger)-1, len(ledger)-2, from == impl.PrimaryOf(f, view).Value)
			}
		}
	}
}

type certsCase struct {
	name     string
	f        int64
	ledger   []impl.Msg
	id, view int64
	want     impl.CertsResult
}

func checkCerts(t *testing.T, cases []certsCase) {
	t.Helper()
	for _, c := range cases {
		checkFine(t, c.name, c.f, c.ledger)
		if got := impl.CertsOf(c.f, c.ledger, c.id, c.view); !sameCerts(got, c.want) {
			t.Errorf("%s: f %d: CertsOf %d ahead of view %d: %+v, want %+v", c.name, c.f, c.id, c.view, got, c.want)
		}
	}
}

func TestCertsOfAsksIdAndView(t *testing.T) {
	for _, f := range []int64{1, 2} {
		all := commits(0, 3, 4, firstOnes(3*f+1)...)
		for _, ledger := range [][]impl.Msg{nil, all} {
			want := certsResult(certs(cert(3, 0, 4))[:min(len(ledger), 1)]...)
			checkCerts(t, []certsCase{
				{"id -1", f, ledger, -1, 1, noCerts(impl.ErrRange)},
				{"id 0", f, ledger, 0, 1, noCerts(impl.ErrRange)},
				{"id 1", f, ledger, 1, 1, want},
				{"id 3f+1", f, ledger, 3*f + 1, 1, want},
				{"id 3f+2", f, ledger, 3*f + 2, 1, noCerts(impl.ErrRange)},
				{"a far id", f, ledger, math.MaxInt64, 1, noCerts(impl.ErrRange)},
				{"a far id below", f, ledger, math.MinInt64, 1, noCerts(impl.ErrRange)},
				{"view -1", f, ledger, 1, -1, noCerts(impl.ErrRange)},
				{"view 0", f, ledger, 1, 0, certsResult()},
				{"view 20", f, ledger, 1, 20, want},
				{"view 21", f, ledger, 1, 21, noCerts(impl.ErrRange)},
				{"a far view", f, ledger, 1, math.MaxInt64, noCerts(impl.ErrRange)},
				{"a far view below", f, ledger, 1, math.MinInt64, noCerts(impl.ErrRange)},
				{"neither", f, ledger, 0, 21, noCerts(impl.ErrRange)},
			})
		}
	}
	// Which code comes first: that of the ledger.
	for _, l := range faultyLedgers() {
		for _, id := range []int64{0, 1, 9} {
			for _, view := range []int64{-1, 1, 21} {
				if got := impl.CertsOf(l.f, l.ledger, id, view); !sameCerts(got, noCerts(l.want)) {
					t.Errorf("%s: CertsOf %d, %d: %+v, want the code %d", l.name, id, view, got, l.want)
				}
			}
		}
	}
}

func TestCertsOf(t *testing.T) {
	list := func(parts ...[]impl.Msg) []impl.Msg { return ledgerOf(parts...) }
	checkCerts(t, []certsCase{
		{"none", 1, nil, 1, 20, certsResult()},
		{"one", 1, commits(0, 3, 4, 1), 1, 1, certsResult(cert(3, 0, 4))},
		{"one of the Value 0", 1, commits(0, 3, 0, 1), 1, 1, certsResult(cert(3, 0, 0))},
		{"the greatest one", 2, commits(19, 30, 12, 7), 7, 20, certsResult(cert(30, 19, 12))},
		{"one of View 20", 2, commits(20, 30, 12, 7), 7, 20, certsResult()},
		{"another one's", 1, commits(0, 3, 4, 2, 3, 4), 1, 1, certsResult()},
		{"another one's between", 1, list(commits(1, 1, 1, 2), commits(0, 3, 4, 1), commits(1, 3, 5, 3)), 1, 2, certsResult(cert(3, 0, 4))},
		{"prepares", 1, prepares(0, 3, 4, 1, 2, 3, 4), 1, 1, certsResult()},
		{"proposes", 1, votesOf(1, 0, 3, 4, 1), 1, 1, certsResult()},
		{"changes with it", 1, msgs(changing(1, 1, cert(3, 0, 4))), 1, 2, certsResult()},
		{"prepares of a greater View", 1, list(commits(0, 3, 4, 1), prepares(1, 3, 5, 1, 2, 3, 4)), 1, 2, certsResult(cert(3, 0, 4))},
		{"without prepares, it alone", 1, commits(2, 3, 4, 1), 1, 3, certsResult(cert(3, 2, 4))},
		{"the view itself", 1, commits(2, 3, 4, 1), 1, 2, certsResult()},
		{"a view below", 1, commits(2, 3, 4, 1), 1, 1, certsResult()},
		{"the view itself and above, and one below", 1, list(commits(2, 3, 4, 1), commits(3, 3, 5, 1), commits(1, 3, 6, 1)), 1, 2, certsResult(cert(3, 1, 6))},
		{"several Views, rising", 1, list(commits(0, 3, 4, 1), commits(1, 3, 5, 1), commits(2, 3, 6, 1)), 1, 20, certsResult(cert(3, 2, 6))},
		{"several Views, falling", 1, list(commits(2, 3, 6, 1), commits(1, 3, 5, 1), commits(0, 3, 4, 1)), 1, 20, certsResult(cert(3, 2, 6))},
		{"several Views, the greatest below", 1, list(commits(0, 3, 4, 1), commits(1, 3, 5, 1), commits(2, 3, 6, 1)), 1, 2, certsResult(cert(3, 1, 5))},
		{"Views as 2 and 10", 1, list(commits(10, 3, 4, 1), commits(2, 3, 5, 1)), 1, 11, certsResult(cert(3, 10, 4))},
		{"one View twice", 1, list(commits(1, 3, 5, 1), commits(1, 3, 4, 1)), 1, 2, certsResult(cert(3, 1, 5))},
		{"one View twice, the greater behind", 1, list(commits(1, 3, 4, 1), commits(1, 3, 5, 1)), 1, 2, certsResult(cert(3, 1, 4))},
		{"one View twice, behind one below", 1, list(commits(0, 3, 9, 1), commits(1, 3, 4, 1), commits(1, 3, 0, 1)), 1, 2, certsResult(cert(3, 1, 4))},
		{"several slots", 1, list(commits(0, 1, 4, 1), commits(0, 2, 5, 1)), 1, 1, certsResult(cert(1, 0, 4), cert(2, 0, 5))},
		{"several slots, falling", 1, list(commits(0, 30, 4, 1), commits(1, 2, 5, 1), commits(0, 1, 4, 1)), 1, 2, certsResult(cert(1, 0, 4), cert(2, 1, 5), cert(30, 0, 4))},
		{"several slots, mixed", 1, list(commits(0, 7, 1, 1), commits(1, 2, 2, 1), commits(1, 7, 3, 1), commits(0, 9, 4, 1), commits(0, 2, 5, 1)), 1, 2, certsResult(cert(2, 1, 2), cert(7, 1, 3), cert(9, 0, 4))},
		{"some slots alone below", 1, list(commits(0, 2, 1, 1), commits(1, 3, 2, 1), commits(2, 4, 3, 1)), 1, 2, certsResult(cert(2, 0, 1), cert(3, 1, 2))},
		{"the last of 240", 1, list(manyMsgs(239), commits(11, 30, 12, 4)), 4, 12, modelCertsOf(1, list(manyMsgs(239), commits(11, 30, 12, 4)), 4, 12)},
	})
	for view := int64(1); view <= 20; view++ {
		var want []impl.Cert
		for slot := int64(1); slot <= 30; slot++ {
			if slot%21 < view {
				want = append(want, cert(slot, slot%21, valueAt(slot)))
			}
		}
		for id := int64(1); id <= 4; id++ {
			checkCerts(t, []certsCase{{"fullLedger", 1, fullLedger(), id, view, certsResult(want...)}})
		}
	}
}

func TestViewsAreWhatTheModelTells(t *testing.T) {
	t.Parallel()
	r := rand.New(rand.NewPCG(60, 1))
	codes := map[string]map[int64]int{"changes": {}, "pick": {}, "certs": {}}
	told := map[string]int{}
	count := func(what string, is bool) {
		if is {
			told[what]++
		} else {
			told["not "+what]++
		}
	}
	for range 5000 {
		c := drawnViewCall(r)
		got, want := programView(c), modelView(c)
		if !sameViews(got, want) {
			t.Fatalf("of %+v:\n%+v, want\n%+v", c, got, want)
		}
		codes["changes"][got.changes.Code]++
		codes["pick"][got.pick.Code]++
		codes["certs"][got.certs.Code]++
		count("a right change", got.change)
		count("a right new", got.begin)
		count("a right propose", got.propose)
		count("a right propose behind a new", got.propose && c.start >= 0)
		count("enough changes", len(got.changes.List) == int(2*c.f+1))
		count("some changes", len(got.changes.List) > 0)
		count("a value picked", slices.Max(append(got.pick.List, 0)) > 0)
		count("several certs", len(got.certs.Certs) > 1)
	}
	for what, all := range codes {
		for _, code := range []int64{impl.OK, impl.ErrForm, impl.ErrMany, impl.ErrRange, impl.ErrNone, impl.ErrTaken} {
			if all[code] < 5 {
				t.Errorf("%s: the code %d was told only %d times", what, code, all[code])
			}
		}
	}
	if len(told) != 16 {
		t.Errorf("told: %v", told)
	}
	for what, many := range told {
		if many < 300 {
			t.Errorf("%s: only %d times", what, many)
		}
	}
}

// newestIn are the certificates of a slot than which none of that slot has a greater View.
func newestIn(list []impl.Cert, slot int64) []impl.Cert {
	same := slices.DeleteFunc(slices.Clone(list), func(c impl.Cert) bool { return c.Slot != slot })
	return slices.DeleteFunc(slices.Clone(same), func(c impl.Cert) bool {
		return slices.ContainsFunc(same, func(o impl.Cert) bool { return o.View > c.View })
	})
}

// Promise 11: a new view takes over the newest certificate of each slot: PickOf tells the Value of a Cert than which none of that slot has a greater View, up to the last slot that any has.
func TestNewViewTakesOverTheNewest(t *testing.T) {
	r := rand.New(rand.NewPCG(61, 61))
	taken, empty, rivals := 0, 0, 0
	for range 2500 {
		c := drawnFineView(r)
		got := impl.PickOf(c.f, c.ledger, c.refs)
		var all []impl.Cert
		for _, ref := range c.refs {
			all = append(all, c.ledger[ref].Certs...)
		}
		if last := slices.Max(append(modelSlots(all), 0)); got.Code != impl.OK || int64(len(got.List)) != last {
			t.Fatalf("f %d: PickOf %v of %+v: %+v, want %d slots", c.f, c.refs, c.ledger, got, last)
		}
		for at, value := range got.List {
			newest := newestIn(all, int64(at)+1)
			switch {
			case len(newest) == 0 && value == 0:
				empty++
			case slices.ContainsFunc(newest, func(c impl.Cert) bool { return c.Value == value }):
				taken++
			default:
				t.Fatalf("f %d: PickOf %v: slot %d has %d, and the newest are %v", c.f, c.refs, at+1, value, newest)
			}
			same := slices.DeleteFunc(slices.Clone(all), func(c impl.Cert) bool { return c.Slot != int64(at)+1 })
			if len(slices.Compact(same)) > 1 {
				rivals++
			}
		}
	}
	if taken < 1000 || empty < 1000 || rivals < 300 {
		t.Errorf("only %d values were taken over, %d slots were empty, %d had several certificates", taken, empty, rivals)
	}
}

// Promise 11: what ChangesFor tells are places of changes that are right, of that View, no two of one From, 2f+1 at most; and none that is right is left out as long as there are fewer.
func TestChangesAreRightAndEachOfAnother(t *testing.T) {
	t.Parallel()
	r := rand.New(rand.NewPCG(62, 62))
	enough, fewer := 0, 0
	for range 2500 {
		c := drawnFineView(r)
		got := impl.ChangesFor(c.f, c.ledger, c.view)
		if got.Code != impl.OK || !modelRises(got.List) || int64(len(got.List)) > 2*c.f+1 {
			t.Fatalf("f %d: ChangesFor %d: %+v", c.f, c.view, got)
		}
		changed := map[int64]int64{}
		for _, at := range got.List {
			m := c.ledger[at]
			if _, twice := changed[m.From]; twice || m.View != c.view || !impl.ChangeRight(c.f, c.ledger, at) {
				t.Fatalf("f %d: ChangesFor %d: %v of %+v: place %d", c.f, c.view, got.List, c.ledger, at)
			}
			changed[m.From] = at
		}
		full := int64(len(got.List)) == 2*c.f+1
		for at, m := range c.ledger {
			if m.View != c.view || !impl.ChangeRight(c.f, c.ledger, int64(at)) || full && int64(at) > got.List[2*c.f] {
				continue
			}
			if first, there := changed[m.From]; !there || first > int64(at) {
				t.Fatalf("f %d: ChangesFor %d: %v of %+v leave out place %d", c.f, c.view, got.List, c.ledger, at)
			}
		}
		if full {
			enough++
		} else {
			fewer++
		}
	}
	if enough < 300 || fewer < 300 {
		t.Errorf("only %d had enough, %d had fewer", enough, fewer)
	}
}

// Promise 11: a view begins just with enough changes that are right, each of another one: a MsgNew of the primary whose Refs are what ChangesFor tells is right just where these are 2f+1; and whatever is right has so many.
func TestViewBeginsJustWithEnough(t *testing.T) {
	t.Parallel()
	r := rand.New(rand.NewPCG(63, 63))
	begins, not, right := 0, 0, 0
	for range 2500 {
		c := drawnFineView(r)
		if len(c.ledger) == 240 {
			continue
		}
		changes := impl.ChangesFor(c.f, c.ledger, c.view).List
		start := beginning(c.view, impl.PrimaryOf(c.f, c.view).Value, changes...)
		put := impl.PutMsg(c.f, c.ledger, start)
		if put.Code != impl.OK {
			t.Fatalf("PutMsg %+v: the code %d", start, put.Code)
		}
		at := slices.IndexFunc(put.Ledger, func(m impl.Msg) bool { return equalMsgs(m, start) })
		got, want := impl.NewRight(c.f, put.Ledger, int64(at)), int64(len(changes)) == 2*c.f+1
		if got != want {
			t.Fatalf("f %d: NewRight of %+v in %+v: %v", c.f, start, put.Ledger, got)
		}
		if got {
			begins++
		} else {
			not++
		}
		for place, m := range c.ledger {
			if !impl.NewRight(c.f, c.ledger, int64(place)) {
				continue
			}
			right++
			senders := map[int64]int{}
			for _, ref := range m.Refs {
				senders[c.ledger[ref].From]++
				if !impl.ChangeRight(c.f, c.ledger, ref) || c.ledger[ref].View != m.View {
					t.Fatalf("f %d: %+v of %+v is right, but place %d is not", c.f, m, c.ledger, ref)
				}
			}
			if m.View == 0 || int64(len(senders)) < 2*c.f+1 || len(senders) != len(m.Refs) || m.From != impl.PrimaryOf(c.f, m.View).Value {
				t.Fatalf("f %d: %+v of %+v is right", c.f, m, c.ledger)
			}
		}
	}
	if begins < 300 || not < 300 || right < 300 {
		t.Errorf("only %d began, %d did not, %d others were right", begins, not, right)
	}
}

// Promise 11: what enough have committed is taken over by every view that begins behind it, whoever of them changes, if each tells what CertsOf tells.
func TestWhatWasDecidedIsTakenOver(t *testing.T) {
	for _, f := range []int64{1, 2} {
		need := int(2*f + 1)
		for set := range uint(1) << (3*f + 1) {
			if len(onesOf(set)) != need {
				continue
			}
			// Ahead of it another value was committed in an older view, and one by a single replica in another slot.
			ledger := ledgerOf(prepared(f, cert(2, 0, 9), cert(2, 3, 5), cert(4, 1, 7)), commits(0, 2, 9, firstOnes(3*f+1)...), commits(3, 2, 5, onesOf(set)...), commits(1, 4, 7, 1))
			before := int64(len(ledger))
			for id := int64(1); id <= 3*f+1; id++ {
				ledger = append(ledger, changing(4, id, impl.CertsOf(f, ledger, id, 4).Certs...))
			}
			for others := range uint(1) << (3*f + 1) {
				refs := onesOf(others)
				if len(refs) != need {
					continue
				}
				for i := range refs {
					refs[i] += before - 1
				}
				start := append(slices.Clone(ledger), beginning(4, impl.PrimaryOf(f, 4).Value, refs...), said(1, 4, impl.PrimaryOf(f, 4).Value, 2, 5), said(1, 4, impl.PrimaryOf(f, 4).Value, 2, 9))
				at := len(ledger)
				checkNewAt(t, "what was decided", f, start, at, true)
				if got := impl.PickOf(f, start, refs); got.Code != impl.OK || len(got.List) < 2 || got.List[1] != 5 {
					t.Fatalf("f %d: %v committed, %v changed: %+v", f, onesOf(set), onesOf(others), got)
				}
				checkProposeAt(t, "what was decided", f, start, at+1, at, true)
				checkProposeAt(t, "what was decided ahead of it", f, start, at+2, at, false)
			}
		}
	}
}

// Promise 1: every argument has an answer, however long a list is or how odd its numbers are.
func TestEveryViewIsAnswered(t *testing.T) {
	far := []int64{math.MinInt64, -2, -1, 0, 1, 2, 3, 4, 5, 7, 8, 20, 21, 30, 239, 240, math.MaxInt64}
	for i, f := range far {
		for j, n := range far {
			for k, other := range far {
				odd := said(far[(i+j)%len(far)], n, other, far[(i+k)%len(far)], far[(j+k)%len(far)])
				list := odd
				list.Certs, list.Refs = make([]impl.Cert, 1<<9), []int64{n, other, math.MaxInt64}
				ledgers := [][]impl.Msg{nil, {}, begun(), {odd}, {list}, append(begun(), odd), slices.Repeat(msgs(odd), 1<<9), takeover(2)}
				c := viewCall{f: f, ledger: ledgers[(i+j+k)%len(ledgers)], change: n, begin: other, view: n, refs: []int64{n, other}, place: other, start: n, id: other}
				if k%2 == 0 {
					c.f, c.refs = 1+int64(i)%2, alike(n, int(min(max(other, 0), 1<<9)))
				}
				if got, want := programView(c), modelView(c); !sameViews(got, want) {
					t.Fatalf("of %.300s: %+v, want %+v", fmt.Sprint(c), got, want)
				}
			}
		}
	}
}

// Promise 1: an answer hangs on the arguments alone, so it is the same in whatever order it is asked.
func TestViewAnswersHangOnArgumentsAlone(t *testing.T) {
	r := rand.New(rand.NewPCG(64, 64))
	checkAgain(t, drawnMany(r, 300, drawnViewCall), programView, sameViews)
}

// drawnOwnViewCall draws a call of which nothing lies where anything else does.
func drawnOwnViewCall(r *rand.Rand) viewCall {
	c := drawnViewCall(r)
	c.ledger, c.refs = ownLedger(c.ledger), roomy(c.refs)
	return c
}

// sharesWithView tells whether a list lies where anything that was handed in does.
func sharesWithView[T any](list []T, c viewCall) bool {
	return sharesRoom(list, c.ledger) || sharesRoom(list, c.refs) || slices.ContainsFunc(c.ledger, func(m impl.Msg) bool {
		return sharesRoom(list, m.Certs) || sharesRoom(list, m.Refs)
	})
}

func viewsApart(a viewAnswers, b viewAnswers) bool {
	lists := [][]int64{a.changes.List, a.pick.List, b.changes.List, b.pick.List}
	for i, list := range lists {
		if sharesRoom(list, a.certs.Certs) || sharesRoom(list, b.certs.Certs) || slices.ContainsFunc(lists[:i], func(o []int64) bool { return sharesRoom(list, o) }) {
			return false
		}
	}
	return !sharesRoom(a.certs.Certs, b.certs.Certs)
}

// Promise 1: what is answered shares no memory with what is handed in, nor one answer with another.
func TestViewAnswersAreNewMemory(t *testing.T) {
	t.Parallel()
	r := rand.New(rand.NewPCG(65, 65))
	told := 0
	for range 2000 {
		c := drawnOwnViewCall(r)
		first, second := programView(c), programView(c)
		if sharesWithView(first.changes.List, c) || sharesWithView(first.pick.List, c) || sharesWithView(first.certs.Certs, c) || !viewsApart(first, second) {
			t.Fatalf("of %+v: %+v shares memory", c, first)
		}
		told += len(first.changes.List) + len(first.pick.List) + len(first.certs.Certs)
		want := modelView(c)
		clear(first.changes.List[:cap(first.changes.List)])
		clear(first.pick.List[:cap(first.pick.List)])
		clear(first.certs.Certs[:cap(first.certs.Certs)])
		if !sameViews(second, want) || !sameViews(programView(c), want) {
			t.Fatalf("of %+v: who writes into an answer turns another", c)
		}
		wipeLedger(c.ledger)
		clear(c.refs[:cap(c.refs)])
		if !sameViews(second, want) {
			t.Fatalf("the answer turned with what was handed in: %+v, want %+v", second, want)
		}
	}
	if told < 5000 {
		t.Errorf("only %d were told", told)
	}
}

// Promise 1: no call changes the ledger, its Certs and Refs, or the refs that are handed in, nor what lies behind them.
func TestViewArgumentsStayAsTheyAre(t *testing.T) {
	r := rand.New(rand.NewPCG(66, 66))
	for range 2000 {
		c := drawnOwnViewCall(r)
		oldLedger, oldRefs := ownLedger(wholeLedger(c.ledger)), slices.Clone(c.refs[:cap(c.refs)])
		programView(c)
		if !sameLedgers(wholeLedger(c.ledger), oldLedger) || !slices.Equal(c.refs[:cap(c.refs)], oldRefs) {
			t.Fatalf("changed: %+v", c)
		}
	}
}
