package tests

import (
	"fmt"
	"math"
	"math/rand/v2"
	"slices"
	"strings"
	"testing"

	"loop.example/g00369/impl"
)

func said(kind int64, view int64, from int64, slot int64, value int64) impl.Msg {
	return impl.Msg{Kind: kind, View: view, From: from, Slot: slot, Value: value}
}

func changing(view int64, from int64, certs ...impl.Cert) impl.Msg {
	return impl.Msg{Kind: impl.MsgChange, View: view, From: from, Certs: certs}
}

func beginning(view int64, from int64, refs ...int64) impl.Msg {
	return impl.Msg{Kind: impl.MsgNew, View: view, From: from, Refs: refs}
}

func cert(slot int64, view int64, value int64) impl.Cert {
	return impl.Cert{Slot: slot, View: view, Value: value}
}

func certs(list ...impl.Cert) []impl.Cert {
	return list
}

// certsAt are certificates of these slots, of View 0.
func certsAt(slots ...int64) []impl.Cert {
	var list []impl.Cert
	for _, slot := range slots {
		list = append(list, cert(slot, 0, 5))
	}
	return list
}

// certsUpTo are certificates of the slots from 1 on.
func certsUpTo(many int) []impl.Cert {
	return certsAt(counting(many + 1)[1:]...)
}

func certWith(list []impl.Cert, at int, c impl.Cert) []impl.Cert {
	list = slices.Clone(list)
	list[at] = c
	return list
}

func msgs(list ...impl.Msg) []impl.Msg {
	return list
}

// msgAt is one of many messages, no two of which are alike; each fifth is a MsgNew that names the one ahead.
func msgAt(i int) impl.Msg {
	row, column := int64(i/30), int64(i%30)
	from := column%4 + 1
	switch i % 5 {
	case 3:
		return changing(row+1, from, cert(column+1, row, 5))
	case 4:
		return beginning(row, from, int64(i)-1)
	}
	return said(int64(i%5)+1, row, from, column+1, column%12+1)
}

func manyMsgs(many int) []impl.Msg {
	var list []impl.Msg
	for i := range many {
		list = append(list, msgAt(i))
	}
	return list
}

// newcomer is a message that none of manyMsgs is.
var newcomer = said(impl.MsgPrepare, 20, 4, 30, 12)

func holding(list ...impl.Msg) impl.LedgerResult {
	return impl.LedgerResult{Ledger: list}
}

func noLedger(code int64) impl.LedgerResult {
	return impl.LedgerResult{Code: code}
}

func placesOf(list ...int64) impl.IntsResult {
	return impl.IntsResult{List: list}
}

func noPlaces(code int64) impl.IntsResult {
	return impl.IntsResult{Code: code}
}

func TestMsgBounds(t *testing.T) {
	if got := [...]int{impl.MsgPropose, impl.MsgPrepare, impl.MsgCommit, impl.MsgChange, impl.MsgNew}; got != [...]int{1, 2, 3, 4, 5} {
		t.Errorf("kinds of messages: %v, want 1 to 5", got)
	}
	if got := [...]int{impl.MaxView, impl.MaxSlots, impl.MaxValue, impl.MaxLedger}; got != [...]int{20, 30, 12, 240} {
		t.Errorf("MaxView, MaxSlots, MaxValue and MaxLedger: %v, want 20, 30, 12 and 240", got)
	}
}

type msgCase struct {
	name string
	f    int64
	m    impl.Msg
	want int64
}

var fineMsgs = []msgCase{
	{"a propose", 1, said(1, 1, 2, 3, 4), impl.OK},
	{"a prepare", 1, said(2, 1, 2, 3, 4), impl.OK},
	{"a commit", 1, said(3, 1, 2, 3, 4), impl.OK},
	{"a change", 1, changing(2, 3, certsAt(1, 7)...), impl.OK},
	{"a new", 1, beginning(2, 3, 0, 7), impl.OK},
	{"the least propose", 1, said(1, 0, 1, 1, 0), impl.OK},
	{"the greatest propose, f 1", 1, said(1, 20, 4, 30, 12), impl.OK},
	{"the greatest propose, f 2", 2, said(1, 20, 7, 30, 12), impl.OK},
	{"the greatest prepare", 2, said(2, 20, 7, 30, 12), impl.OK},
	{"the greatest commit", 2, said(3, 20, 7, 30, 12), impl.OK},
	{"the least change", 1, changing(0, 1), impl.OK},
	{"a change of an empty list", 1, impl.Msg{Kind: 4, From: 1, Certs: certs(), Refs: []int64{}}, impl.OK},
	{"a new of an empty list", 1, impl.Msg{Kind: 5, From: 1, Certs: certs(), Refs: []int64{}}, impl.OK},
	{"a commit with empty lists", 1, impl.Msg{Kind: 3, From: 1, Slot: 1, Certs: certs(), Refs: []int64{}}, impl.OK},
	{"a change of View 1 with one of View 0", 1, changing(1, 1, cert(1, 0, 0)), impl.OK},
	{"a change with the greatest", 1, changing(20, 4, cert(30, 19, 12)), impl.OK},
	{"a change with 30", 1, changing(20, 4, certsUpTo(30)...), impl.OK},
	{"a change with the first and the last slot", 1, changing(1, 4, certsAt(1, 30)...), impl.OK},
	{"Certs rise by Slot alone", 1, changing(9, 1, cert(1, 8, 12), cert(2, 5, 3), cert(3, 0, 0)), impl.OK},
	{"the least new", 1, beginning(0, 1), impl.OK},
	{"a new with one", 1, beginning(0, 1, 0), impl.OK},
	{"a new with the last place", 1, beginning(0, 1, 239), impl.OK},
	{"a new with the first and the last place", 1, beginning(0, 1, 0, 239), impl.OK},
	{"a new with 4, f 1", 1, beginning(20, 4, 0, 1, 2, 3), impl.OK},
	{"a new with 5, f 2", 2, beginning(20, 7, 0, 1, 2, 3, 4), impl.OK},
	{"a new with 7, f 2", 2, beginning(20, 7, 233, 234, 235, 236, 237, 238, 239), impl.OK},
}

// What a message has and its kind has not, each alone, and the kinds that are none.
func formMsgs() []msgCase {
	var list []msgCase
	for _, kind := range []int64{math.MinInt64, -1, 0, 6, 7, 257, 1<<32 + 1, math.MaxInt64} {
		list = append(list,
			msgCase{fmt.Sprintf("kind %d", kind), 1, said(kind, 1, 2, 3, 4), impl.ErrForm},
			msgCase{fmt.Sprintf("kind %d, nothing else", kind), 1, said(kind, 1, 2, 0, 0), impl.ErrForm})
	}
	for kind := int64(1); kind <= 3; kind++ {
		withCert, withRef := said(kind, 1, 2, 3, 4), said(kind, 1, 2, 3, 4)
		withCert.Certs, withRef.Refs = certsAt(1), []int64{0}
		list = append(list,
			msgCase{fmt.Sprintf("kind %d with one of Certs", kind), 1, withCert, impl.ErrForm},
			msgCase{fmt.Sprintf("kind %d with one of Refs", kind), 1, withRef, impl.ErrForm})
	}
	for _, base := range msgs(changing(1, 2), changing(1, 2, certsAt(1)...), beginning(1, 2), beginning(1, 2, 0)) {
		for _, n := range []int64{-1, 1, 30, 31} {
			withSlot, withValue := base, base
			withSlot.Slot, withValue.Value = n, n
			list = append(list,
				msgCase{fmt.Sprintf("%v with Slot %d", base, n), 1, withSlot, impl.ErrForm},
				msgCase{fmt.Sprintf("%v with Value %d", base, n), 1, withValue, impl.ErrForm})
		}
		both := base
		both.Certs, both.Refs = certsAt(1), []int64{0}
		list = append(list, msgCase{fmt.Sprintf("%v with both lists", base), 1, both, impl.ErrForm})
	}
	withRef, withCert := changing(1, 2), beginning(1, 2)
	withRef.Refs, withCert.Certs = []int64{0}, certsAt(1)
	zeroCert := beginning(1, 2)
	zeroCert.Certs = certs(impl.Cert{})
	return append(list,
		msgCase{"the zero value", 1, impl.Msg{}, impl.ErrForm},
		msgCase{"a change with one of Refs", 1, withRef, impl.ErrForm},
		msgCase{"a new with one of Certs", 1, withCert, impl.ErrForm},
		msgCase{"a new with one of Certs that is zero", 1, zeroCert, impl.ErrForm})
}

// Numbers of a message that leave their bounds, for each kind that has them.
func rangeMsgs() []msgCase {
	var list []msgCase
	for kind := int64(1); kind <= 5; kind++ {
		base := impl.Msg{Kind: kind, View: 1, From: 2}
		if kind <= 3 {
			base.Slot = 3
		}
		turn := func(name string, f int64, numbers []int64, set func(*impl.Msg, int64)) {
			for _, n := range numbers {
				m := base
				set(&m, n)
				list = append(list, msgCase{fmt.Sprintf("kind %d, f %d, %s %d", kind, f, name, n), f, m, impl.ErrRange})
			}
		}
		setFrom := func(m *impl.Msg, n int64) { m.From = n }
		turn("View", 1, []int64{math.MinInt64, -1, 21, 22, math.MaxInt64}, func(m *impl.Msg, n int64) { m.View = n })
		turn("From", 1, []int64{math.MinInt64, -1, 0, 5, 7, 8, math.MaxInt64}, setFrom)
		turn("From", 2, []int64{math.MinInt64, -1, 0, 8, 10, math.MaxInt64}, setFrom)
		if kind <= 3 {
			turn("Slot", 1, []int64{math.MinInt64, -1, 0, 31, 32, math.MaxInt64}, func(m *impl.Msg, n int64) { m.Slot = n })
			turn("Value", 1, []int64{math.MinInt64, -1, 13, 14, math.MaxInt64}, func(m *impl.Msg, n int64) { m.Value = n })
		}
	}
	return list
}

// Lists of a message that are too long, do not rise, or have something wrong in them.
var listMsgs = []msgCase{
	{"31 Certs", 1, changing(1, 1, certsUpTo(31)...), impl.ErrMany},
	{"31 Certs, f 2", 2, changing(1, 1, certsUpTo(31)...), impl.ErrMany},
	{"31 Certs that are zero", 1, changing(1, 1, make([]impl.Cert, 31)...), impl.ErrMany},
	{"30 Certs that are zero", 1, changing(1, 1, make([]impl.Cert, 30)...), impl.ErrForm},
	{"one of Certs that is zero", 1, changing(1, 1, impl.Cert{}), impl.ErrRange},
	{"Certs stay", 1, changing(1, 1, certsAt(3, 3)...), impl.ErrForm},
	{"Certs stay, of other Views and Values", 1, changing(3, 1, cert(3, 0, 1), cert(3, 1, 2)), impl.ErrForm},
	{"Certs fall", 1, changing(1, 1, certsAt(3, 2)...), impl.ErrForm},
	{"Certs fall, and Views rise", 1, changing(3, 1, cert(3, 0, 1), cert(2, 1, 2)), impl.ErrForm},
	{"Certs stay at first", 1, changing(1, 1, certsAt(3, 3, 4)...), impl.ErrForm},
	{"Certs stay in the end", 1, changing(1, 1, certsAt(3, 4, 4)...), impl.ErrForm},
	{"Certs fall at first", 1, changing(1, 1, certsAt(3, 2, 4)...), impl.ErrForm},
	{"Certs fall in the end", 1, changing(1, 1, certsAt(3, 5, 4)...), impl.ErrForm},
	{"the last of 30 stays", 1, changing(1, 1, append(certsUpTo(29), certsAt(29)...)...), impl.ErrForm},
	{"5 Refs, f 1", 1, beginning(1, 1, counting(5)...), impl.ErrMany},
	{"8 Refs, f 2", 2, beginning(1, 1, counting(8)...), impl.ErrMany},
	{"31 Refs", 2, beginning(1, 1, counting(31)...), impl.ErrMany},
	{"5 Refs alike, f 1", 1, beginning(1, 1, alike(0, 5)...), impl.ErrMany},
	{"8 Refs alike, f 2", 2, beginning(1, 1, alike(0, 8)...), impl.ErrMany},
	{"4 Refs alike, f 1", 1, beginning(1, 1, alike(0, 4)...), impl.ErrForm},
	{"7 Refs alike, f 2", 2, beginning(1, 1, alike(0, 7)...), impl.ErrForm},
	{"Refs stay", 1, beginning(1, 1, 3, 3), impl.ErrForm},
	{"Refs fall", 1, beginning(1, 1, 3, 2), impl.ErrForm},
	{"Refs stay at first", 1, beginning(1, 1, 3, 3, 4), impl.ErrForm},
	{"Refs stay in the end", 1, beginning(1, 1, 3, 4, 4), impl.ErrForm},
	{"Refs fall at first", 1, beginning(1, 1, 3, 2, 4), impl.ErrForm},
	{"Refs fall in the end", 1, beginning(1, 1, 3, 5, 4), impl.ErrForm},
	{"a ref of -1", 1, beginning(1, 1, -1), impl.ErrRange},
	{"a ref of 240", 1, beginning(1, 1, 240), impl.ErrRange},
	{"a first ref of -1", 1, beginning(1, 1, -1, 0, 1), impl.ErrRange},
	{"a last ref of 240", 1, beginning(1, 1, 0, 1, 240), impl.ErrRange},
	{"a first ref of 240", 1, beginning(1, 1, 240, 241), impl.ErrRange},
	{"a last ref of -1", 1, beginning(1, 1, -2, -1), impl.ErrRange},
	{"far refs", 2, beginning(1, 1, math.MinInt64, math.MaxInt64), impl.ErrRange},
}

// One of Certs that is not so: the first, the last and the only one, where its Slot lets the others rise.
func certMsgs() []msgCase {
	var list []msgCase
	wrong := func(name string, c impl.Cert, want int64) {
		const view = 7
		three := certsAt(5, 6, 7)
		first, last := certWith(three, 0, c), certWith(three, 2, c)
		list = append(list, msgCase{"the only one: " + name, 1, changing(view, 1, c), want})
		if c.Slot < 6 {
			list = append(list, msgCase{"the first: " + name, 1, changing(view, 1, first...), want})
		}
		if c.Slot > 6 {
			list = append(list, msgCase{"the last: " + name, 1, changing(view, 1, last...), want})
		}
	}
	for _, slot := range []int64{5, 7} {
		wrong("fine", cert(slot, 6, 12), impl.OK)
		wrong("a View of 0", cert(slot, 0, 12), impl.OK)
		wrong("a Value of 0", cert(slot, 6, 0), impl.OK)
		wrong("a View of -1", cert(slot, -1, 5), impl.ErrRange)
		wrong("the View of the message", cert(slot, 7, 5), impl.ErrRange)
		wrong("a View above it", cert(slot, 8, 5), impl.ErrRange)
		wrong("a View that is none", cert(slot, 21, 5), impl.ErrRange)
		wrong("a far View", cert(slot, math.MinInt64, 5), impl.ErrRange)
		wrong("a Value of -1", cert(slot, 3, -1), impl.ErrRange)
		wrong("a Value of 13", cert(slot, 3, 13), impl.ErrRange)
		wrong("a far Value", cert(slot, 3, math.MaxInt64), impl.ErrRange)
	}
	wrong("a Slot of 1", cert(1, 3, 5), impl.OK)
	wrong("a Slot of 30", cert(30, 3, 5), impl.OK)
	wrong("a Slot of 0", cert(0, 3, 5), impl.ErrRange)
	wrong("a Slot of 31", cert(31, 3, 5), impl.ErrRange)
	wrong("a Slot of -1", cert(-1, 3, 5), impl.ErrRange)
	wrong("a far Slot", cert(math.MaxInt64, 3, 5), impl.ErrRange)
	wrong("a far Slot below", cert(math.MinInt64, 3, 5), impl.ErrRange)
	return list
}

// Several things are wrong: which code comes first.
func severalMsgs() []msgCase {
	wrongKind := changing(-1, 0, certsUpTo(31)...)
	wrongKind.Kind = 6
	withRef := said(2, -1, 9, 0, 13)
	withRef.Refs = []int64{-1}
	withSlot := changing(21, 1, certsAt(2, 1)...)
	withSlot.Slot = 31
	withValue := beginning(1, 1, counting(9)...)
	withValue.Value = -1
	withCerts := beginning(1, 1, -1)
	withCerts.Certs = certsUpTo(31)
	thirtyOne := certsUpTo(31)
	falling := slices.Clone(thirtyOne)
	slices.Reverse(falling)
	return []msgCase{
		{"kind ahead of all", 1, wrongKind, impl.ErrForm},
		{"what a kind has not ahead of numbers", 1, withRef, impl.ErrForm},
		{"a Slot that a change has not ahead of its View", 1, withSlot, impl.ErrForm},
		{"a Value that a new has not ahead of how many Refs", 1, withValue, impl.ErrForm},
		{"Certs that a new has not ahead of how many", 1, withCerts, impl.ErrForm},
		{"View ahead of too many Certs", 1, changing(21, 1, thirtyOne...), impl.ErrRange},
		{"From ahead of too many Certs", 1, changing(1, 5, thirtyOne...), impl.ErrRange},
		{"View ahead of Certs that fall", 1, changing(-1, 1, certsAt(2, 1)...), impl.ErrRange},
		{"From ahead of Certs that fall", 1, changing(1, 0, certsAt(2, 1)...), impl.ErrRange},
		{"View ahead of too many Refs", 1, beginning(21, 1, counting(5)...), impl.ErrRange},
		{"From ahead of Refs that fall", 1, beginning(1, 5, 2, 1), impl.ErrRange},
		{"too many Certs ahead of Certs that fall", 1, changing(1, 1, falling...), impl.ErrMany},
		{"too many Certs ahead of one that is wrong", 1, changing(1, 1, certWith(thirtyOne, 0, cert(0, 0, 5))...), impl.ErrMany},
		{"too many Certs in View 0", 1, changing(0, 1, thirtyOne...), impl.ErrMany},
		{"too many Refs ahead of Refs that fall", 1, beginning(1, 1, 5, 4, 3, 2, 1), impl.ErrMany},
		{"too many Refs ahead of one that is wrong", 1, beginning(1, 1, -1, 0, 1, 2, 240), impl.ErrMany},
		{"Certs that fall ahead of a wrong Slot", 1, changing(7, 1, certsAt(5, 0)...), impl.ErrForm},
		{"Certs that fall ahead of a wrong Slot at first", 1, changing(7, 1, certsAt(31, 5)...), impl.ErrForm},
		{"Certs that fall behind a wrong View", 1, changing(7, 1, cert(1, 7, 5), cert(3, 0, 5), cert(2, 0, 5)), impl.ErrForm},
		{"Certs that stay behind a wrong Value", 1, changing(7, 1, cert(1, 0, 13), cert(3, 0, 5), cert(3, 0, 5)), impl.ErrForm},
		{"Certs that fall in View 0", 1, changing(0, 1, certsAt(2, 1)...), impl.ErrForm},
		{"Certs that rise in View 0", 1, changing(0, 1, certsAt(1, 2)...), impl.ErrRange},
		{"one of View -1 in View 0", 1, changing(0, 1, cert(1, -1, 5)), impl.ErrRange},
		{"one of View -2 in View -1", 1, changing(-1, 1, cert(1, -2, 5)), impl.ErrRange},
		{"one of View 20 in View 21", 1, changing(21, 1, cert(1, 20, 5)), impl.ErrRange},
		{"Refs that fall ahead of a wrong one", 1, beginning(1, 1, 3, -1), impl.ErrForm},
		{"Refs that fall ahead of a wrong one at first", 1, beginning(1, 1, 240, 3), impl.ErrForm},
		{"Refs that stay behind a wrong one", 1, beginning(1, 1, -1, 3, 3), impl.ErrForm},
		{"Refs that stay and are wrong", 1, beginning(1, 1, 240, 240), impl.ErrForm},
	}
}

// allMsgs are all the cases of messages; faultyMsgs are those with a code.
func allMsgs() []msgCase {
	return slices.Concat(fineMsgs, formMsgs(), rangeMsgs(), listMsgs, certMsgs(), severalMsgs())
}

func faultyMsgs() []msgCase {
	return slices.DeleteFunc(allMsgs(), func(c msgCase) bool { return c.want == impl.OK })
}

func TestMsgFault(t *testing.T) {
	for _, c := range allMsgs() {
		if got := impl.MsgFault(c.f, c.m); got != c.want {
			t.Errorf("%s: MsgFault of %+v: %d, want %d", c.name, c.m, got, c.want)
		}
	}
}

// The bounds of each number, one by one, for both f and all kinds.
func TestMsgFaultAsksNumbers(t *testing.T) {
	numbers := append([]int64{3, 4, 5, 6, 7, 12, 13, 14, 19, 20, 21, 29, 30, 31, 32}, edges...)
	check := func(f int64, m impl.Msg, fine bool) {
		t.Helper()
		want := int64(impl.ErrRange)
		if fine {
			want = impl.OK
		}
		if got := impl.MsgFault(f, m); got != want {
			t.Errorf("f %d: MsgFault of %+v: %d, want %d", f, m, got, want)
		}
	}
	for _, f := range []int64{1, 2} {
		for _, n := range numbers {
			for kind := int64(1); kind <= 3; kind++ {
				check(f, said(kind, n, 1, 1, 0), n >= 0 && n <= 20)
				check(f, said(kind, 0, n, 1, 0), n >= 1 && n <= 3*f+1)
				check(f, said(kind, 0, 1, n, 0), n >= 1 && n <= 30)
				check(f, said(kind, 0, 1, 1, n), n >= 0 && n <= 12)
			}
			check(f, changing(n, 1), n >= 0 && n <= 20)
			check(f, changing(0, n), n >= 1 && n <= 3*f+1)
			check(f, beginning(n, 1, 0), n >= 0 && n <= 20)
			check(f, beginning(0, n, 0), n >= 1 && n <= 3*f+1)
			check(f, beginning(0, 1, n), n >= 0 && n <= 239)
			check(f, changing(9, 1, cert(n, 3, 3)), n >= 1 && n <= 30)
			check(f, changing(9, 1, cert(3, n, 3)), n >= 0 && n <= 8)
			check(f, changing(9, 1, cert(3, 3, n)), n >= 0 && n <= 12)
		}
	}
}

// A View of Certs is held against that of the message, whatever that is.
func TestCertsAreOfViewsBelow(t *testing.T) {
	for view := int64(0); view <= 20; view++ {
		for of := int64(-1); of <= 22; of++ {
			want := int64(impl.ErrRange)
			if of >= 0 && of < view {
				want = impl.OK
			}
			for _, m := range msgs(changing(view, 1, cert(1, of, 1)), changing(view, 1, cert(30, of, 1))) {
				if got := impl.MsgFault(1, m); got != want {
					t.Errorf("MsgFault of %+v: %d, want %d", m, got, want)
				}
			}
		}
	}
}

func TestMsgListsAreCounted(t *testing.T) {
	for many := range 40 {
		for _, f := range []int64{1, 2} {
			want := map[bool]int64{true: impl.OK, false: impl.ErrMany}
			if got := impl.MsgFault(f, changing(20, 1, certsUpTo(many)...)); got != want[many <= 30] {
				t.Errorf("%d Certs: %d", many, got)
			}
			if got := impl.MsgFault(f, beginning(20, 1, counting(many)...)); got != want[many <= int(3*f+1)] {
				t.Errorf("f %d, %d Refs: %d", f, many, got)
			}
		}
	}
}

// f is asked ahead of all else, by each function that has it.
func TestFIsAskedFirst(t *testing.T) {
	ledgers := [][]impl.Msg{nil, manyMsgs(3), make([]impl.Msg, 241), msgs(newcomer, newcomer), msgs(beginning(1, 1, 0))}
	check := func(f int64, m impl.Msg, ledger []impl.Msg) {
		t.Helper()
		for _, from := range []int64{0, 1, 4, 5, 7, 8} {
			got := programMsgs(msgCall{f: f, ledger: ledger, one: m, from: from})
			if got.fault != impl.ErrRange || got.ledgerFault != impl.ErrRange || !samePut(got.put, noLedger(impl.ErrRange)) || !sameInts(got.sent, noPlaces(impl.ErrRange)) || got.text != noText(impl.ErrRange) {
				t.Errorf("f %d: %+v, want %d of all", f, got, impl.ErrRange)
			}
		}
	}
	for _, f := range []int64{math.MinInt64, -1, 0, 3, 4, 1 << 32, 1<<32 + 1, math.MaxInt64 / 3, math.MaxInt64} {
		for _, ledger := range ledgers {
			for _, c := range allMsgs() {
				check(f, c.m, ledger)
			}
		}
	}
	for _, f := range []int64{1, 2} {
		got := programMsgs(msgCall{f: f, ledger: manyMsgs(3), one: newcomer, from: 4})
		if got.fault != impl.OK || got.ledgerFault != impl.OK || got.put.Code != impl.OK || got.sent.Code != impl.OK || got.text.Code != impl.OK {
			t.Errorf("f %d: %+v", f, got)
		}
	}
}

type ledgerCase struct {
	name   string
	f      int64
	ledger []impl.Msg
	want   int64
}

func checkLedgers(t *testing.T, cases []ledgerCase) {
	t.Helper()
	for _, c := range cases {
		if got := impl.LedgerFault(c.f, c.ledger); got != c.want {
			t.Errorf("%s: LedgerFault of %.300s: %d, want %d", c.name, fmt.Sprint(c.ledger), got, c.want)
		}
	}
}

// afterMany are messages behind so many others.
func afterMany(many int, list ...impl.Msg) []impl.Msg {
	return append(manyMsgs(many), list...)
}

// faultyLedgers are ledgers of which each has a code of its own, not that of a message alone.
func faultyLedgers() []ledgerCase {
	change, start := changing(3, 2, certsAt(1, 2)...), beginning(3, 2, 0, 1)
	wrong := said(2, 1, 2, 31, 4)
	list := []ledgerCase{
		{"241", 1, manyMsgs(241), impl.ErrMany},
		{"241 that are none", 1, make([]impl.Msg, 241), impl.ErrMany},
		{"241 that are the same", 1, slices.Repeat(msgs(newcomer), 241), impl.ErrMany},
		{"very many", 1, make([]impl.Msg, 1<<12), impl.ErrMany},
		{"240 that are none", 1, make([]impl.Msg, 240), impl.ErrForm},
		{"240 that are the same", 1, slices.Repeat(msgs(newcomer), 240), impl.ErrTaken},
		{"the last of 240 names itself", 1, afterMany(239, beginning(20, 4, 239)), impl.ErrNone},
		{"the last of 240 is as the first", 1, afterMany(239, msgAt(0)), impl.ErrTaken},
		{"the last of 240 is as the one ahead", 1, afterMany(239, msgAt(238)), impl.ErrTaken},
		{"one of a replica that f 1 has not", 1, msgs(said(2, 1, 5, 1, 1)), impl.ErrRange},
		{"one with more Refs than f 1 has", 1, afterMany(10, beginning(1, 1, 0, 1, 2, 3, 4)), impl.ErrMany},
		{"the first names itself", 1, msgs(beginning(1, 1, 0), newcomer), impl.ErrNone},
		{"the first names one behind it", 1, msgs(beginning(1, 1, 1), newcomer), impl.ErrNone},
		{"the second names itself", 1, msgs(newcomer, beginning(1, 1, 1)), impl.ErrNone},
		{"the second names the one ahead and itself", 1, msgs(newcomer, beginning(1, 1, 0, 1)), impl.ErrNone},
		{"one names one behind it", 1, msgs(newcomer, beginning(1, 1, 2), change), impl.ErrNone},
		{"one names what is nowhere", 1, msgs(newcomer, beginning(1, 1, 239)), impl.ErrNone},
		{"one names one ahead and what is nowhere", 1, msgs(newcomer, beginning(1, 1, 0, 239)), impl.ErrNone},
		{"two alike", 1, msgs(newcomer, newcomer), impl.ErrTaken},
		{"two changes alike", 1, msgs(change, ownMsg(change)), impl.ErrTaken},
		{"two news alike", 1, msgs(newcomer, change, start, ownMsg(start)), impl.ErrTaken},
		{"two alike, with one between", 1, msgs(change, newcomer, change), impl.ErrTaken},
		{"two alike, with many between", 1, append(append(msgs(newcomer), changing(1, 1)), afterMany(3, newcomer)...), impl.ErrTaken},
		{"two alike, nil and an empty list", 1, msgs(changing(1, 1), impl.Msg{Kind: 4, View: 1, From: 1, Certs: certs(), Refs: []int64{}}), impl.ErrTaken},
		{"in one: too large a ref ahead of one that is nowhere", 1, msgs(newcomer, beginning(1, 1, 240)), impl.ErrRange},
		{"in one: Refs that fall ahead of one that is nowhere", 1, msgs(newcomer, beginning(1, 1, 7, 3)), impl.ErrForm},
		{"in one: too many Refs ahead of those that are nowhere", 1, msgs(newcomer, beginning(1, 1, 3, 4, 5, 6, 7)), impl.ErrMany},
		{"in one: a wrong View ahead of a ref that is nowhere", 1, msgs(newcomer, beginning(21, 1, 1)), impl.ErrRange},
		{"in two: a fault ahead of a ref that is nowhere", 1, msgs(wrong, beginning(1, 1, 1)), impl.ErrRange},
		{"in two: a ref that is nowhere ahead of a fault", 1, msgs(beginning(1, 1, 1), wrong), impl.ErrNone},
		{"in two: a fault ahead of two alike", 1, msgs(newcomer, wrong, newcomer), impl.ErrRange},
		{"in two: two alike ahead of a fault", 1, msgs(newcomer, newcomer, wrong), impl.ErrTaken},
		{"in two: a ref that is nowhere ahead of two alike", 1, msgs(newcomer, beginning(1, 1, 1), newcomer), impl.ErrNone},
		{"in two: two alike ahead of a ref that is nowhere", 1, msgs(newcomer, newcomer, beginning(1, 1, 2)), impl.ErrTaken},
		{"two alike with a fault", 1, msgs(wrong, wrong), impl.ErrRange},
		{"two alike with a ref that is nowhere", 1, msgs(beginning(1, 1, 5), beginning(1, 1, 5)), impl.ErrNone},
		{"two alike, of which the first names itself", 1, msgs(beginning(1, 1, 0), beginning(1, 1, 0)), impl.ErrNone},
		{"two faults", 1, msgs(said(9, 1, 1, 1, 1), wrong), impl.ErrForm},
		{"two faults, turned about", 1, msgs(wrong, said(9, 1, 1, 1, 1)), impl.ErrRange},
		{"too many ahead of a fault", 1, afterMany(240, wrong), impl.ErrMany},
		{"too many ahead of two alike", 1, afterMany(240, msgAt(0)), impl.ErrMany},
		{"too many ahead of one that names itself", 1, append(msgs(beginning(1, 1, 0)), manyMsgs(240)...), impl.ErrMany},
	}
	return list
}

func TestLedgerFault(t *testing.T) {
	checkLedgers(t, faultyLedgers())
	checkLedgers(t, []ledgerCase{
		{"nil", 1, nil, impl.OK},
		{"none", 1, msgs(), impl.OK},
		{"none, f 2", 2, nil, impl.OK},
		{"1", 1, manyMsgs(1), impl.OK},
		{"239", 1, manyMsgs(239), impl.OK},
		{"240", 1, manyMsgs(240), impl.OK},
		{"240, f 2", 2, manyMsgs(240), impl.OK},
		{"one of a replica that f 2 has", 2, msgs(said(2, 1, 5, 1, 1)), impl.OK},
		{"one with as many Refs as f 2 has", 2, afterMany(10, beginning(1, 1, counting(7)...)), impl.OK},
		{"one names the one ahead", 1, msgs(newcomer, beginning(1, 1, 0)), impl.OK},
		{"one names one far ahead", 1, afterMany(239, beginning(1, 1, 0)), impl.OK},
		{"the last of 240 names the one ahead", 1, afterMany(239, beginning(20, 4, 238)), impl.OK},
		{"a new that names another one", 1, msgs(beginning(1, 1), beginning(1, 1, 0), beginning(1, 1, 0, 1)), impl.OK},
		{"a new that names no change", 1, msgs(newcomer, said(1, 1, 1, 1, 1), beginning(1, 1, 0, 1)), impl.OK},
		{"neither views nor slots rise", 1, msgs(said(3, 9, 4, 9, 1), said(2, 3, 3, 7, 1), said(1, 0, 1, 1, 1)), impl.OK},
		{"one says two things of one slot", 1, msgs(said(2, 1, 1, 1, 1), said(2, 1, 1, 1, 2)), impl.OK},
	})
}

// Wherever a message with a fault stands, that is told.
func TestLedgerFaultAsksEach(t *testing.T) {
	for _, c := range faultyMsgs() {
		checkLedgers(t, []ledgerCase{
			{"alone: " + c.name, c.f, msgs(c.m), c.want},
			{"the first: " + c.name, c.f, append(msgs(c.m), newcomer, said(1, 1, 1, 1, 1)), c.want},
			{"in the middle: " + c.name, c.f, afterMany(20, append(msgs(c.m), newcomer)...), c.want},
			{"the last: " + c.name, c.f, afterMany(20, c.m), c.want},
			{"the last of 240: " + c.name, c.f, afterMany(239, c.m), c.want},
		})
	}
	for _, c := range fineMsgs {
		want := int64(impl.OK)
		if slices.Contains(c.m.Refs, 239) || len(c.m.Refs) > 0 && c.m.Refs[0] > 8 {
			want = impl.ErrNone
		}
		checkLedgers(t, []ledgerCase{
			{"behind 9: " + c.name, c.f, afterMany(9, c.m), want},
			{"behind 9 and others: " + c.name, c.f, afterMany(9, c.m, changing(20, 1)), want},
		})
	}
}

// msgsBeside are messages that differ from one in just one thing, by what that is.
func msgsBeside(m impl.Msg) map[string]impl.Msg {
	all := map[string]impl.Msg{}
	turn := func(name string, do func(*impl.Msg)) {
		other := ownMsg(m)
		do(&other)
		all[name] = other
	}
	turn("Kind", func(o *impl.Msg) { o.Kind-- })
	turn("View", func(o *impl.Msg) { o.View++ })
	turn("From", func(o *impl.Msg) { o.From++ })
	turn("Slot", func(o *impl.Msg) { o.Slot++ })
	turn("Value", func(o *impl.Msg) { o.Value-- })
	turn("one of Certs more", func(o *impl.Msg) { o.Certs = append(o.Certs, impl.Cert{}) })
	turn("one of Refs more", func(o *impl.Msg) { o.Refs = append(o.Refs, 0) })
	for i := range m.Certs {
		turn(fmt.Sprintf("no Certs %d", i), func(o *impl.Msg) { o.Certs = slices.Delete(o.Certs, i, i+1) })
		turn(fmt.Sprintf("Slot of Certs %d", i), func(o *impl.Msg) { o.Certs[i].Slot++ })
		turn(fmt.Sprintf("View of Certs %d", i), func(o *impl.Msg) { o.Certs[i].View-- })
		turn(fmt.Sprintf("Value of Certs %d", i), func(o *impl.Msg) { o.Certs[i].Value++ })
	}
	for i := range m.Refs {
		turn(fmt.Sprintf("no Refs %d", i), func(o *impl.Msg) { o.Refs = slices.Delete(o.Refs, i, i+1) })
		turn(fmt.Sprintf("Refs %d", i), func(o *impl.Msg) { o.Refs[i]-- })
	}
	return all
}

// Messages that differ in one thing alone stand in one ledger, beside each other and apart.
func TestOneThingTellsMessagesApart(t *testing.T) {
	count := 0
	for _, m := range msgs(said(2, 3, 2, 4, 5), said(3, 3, 2, 4, 5), changing(9, 2, cert(2, 3, 4), cert(4, 5, 6), cert(9, 3, 0)), beginning(9, 2, 1, 3, 5), changing(9, 2), beginning(9, 2)) {
		for name, other := range msgsBeside(m) {
			if modelMsgFault(1, other) != impl.OK {
				continue
			}
			count++
			checkLedgers(t, []ledgerCase{
				{"beside: " + name, 1, afterMany(9, m, other), impl.OK},
				{"apart: " + name, 1, afterMany(9, other, newcomer, changing(20, 1), m), impl.OK},
				{"beside, and alike: " + name, 1, afterMany(9, m, other, ownMsg(m)), impl.ErrTaken},
			})
			want := holding(afterMany(9, m, other)...)
			if got := impl.PutMsg(1, afterMany(9, m), other); !samePut(got, want) {
				t.Errorf("%s: PutMsg of %+v behind %+v: %+v", name, other, m, got)
			}
		}
	}
	if count < 25 {
		t.Errorf("only %d messages were told apart", count)
	}
}

type putCase struct {
	name   string
	f      int64
	ledger []impl.Msg
	m      impl.Msg
	want   impl.LedgerResult
}

func checkPuts(t *testing.T, cases []putCase) {
	t.Helper()
	for _, c := range cases {
		if got := impl.PutMsg(c.f, c.ledger, c.m); !samePut(got, c.want) {
			t.Errorf("%s: PutMsg of %+v to %d messages: %.300s, want %.300s", c.name, c.m, len(c.ledger), fmt.Sprint(got), fmt.Sprint(c.want))
		}
	}
}

func TestPutMsg(t *testing.T) {
	three := msgs(newcomer, changing(3, 2, certsAt(2, 9)...), said(1, 0, 1, 1, 0))
	first := said(1, 0, 1, 1, 1)
	start := beginning(3, 2, 0, 2)
	cases := []putCase{
		{"to nil", 1, nil, first, holding(first)},
		{"to none", 1, msgs(), first, holding(first)},
		{"to one", 1, three[:1], first, holding(newcomer, first)},
		{"what is ahead of all", 1, three, first, holding(append(slices.Clone(three), first)...)},
		{"a new", 1, three, start, holding(append(slices.Clone(three), start)...)},
		{"a new of nothing", 1, nil, beginning(0, 1), holding(beginning(0, 1))},
		{"a change", 1, three, changing(3, 2), holding(append(slices.Clone(three), changing(3, 2))...)},
		{"of the last replica, f 2", 2, three, said(3, 1, 7, 1, 1), holding(append(slices.Clone(three), said(3, 1, 7, 1, 1))...)},
		{"of that replica, f 1", 1, three, said(3, 1, 7, 1, 1), noLedger(impl.ErrRange)},
		{"with 7 Refs, f 2", 2, manyMsgs(7), beginning(1, 1, counting(7)...), holding(afterMany(7, beginning(1, 1, counting(7)...))...)},
		{"with 5 Refs, f 1", 1, manyMsgs(7), beginning(1, 1, counting(5)...), noLedger(impl.ErrMany)},
	}
	for _, m := range append(slices.Clone(three), start) {
		cases = append(cases, putCase{"one that is there", 1, append(slices.Clone(three), start), ownMsg(m), holding(append(slices.Clone(three), start)...)})
	}
	checkPuts(t, cases)
}

func TestPutMsgAsksRefs(t *testing.T) {
	for _, many := range []int{0, 1, 2, 5, 20, 238, 239} {
		n := int64(many)
		put := func(name string, m impl.Msg, fine bool) {
			t.Helper()
			want := noLedger(impl.ErrNone)
			if fine {
				want = holding(afterMany(many, m)...)
			}
			checkPuts(t, []putCase{{fmt.Sprintf("%d, %s", many, name), 1, manyMsgs(many), m, want}})
		}
		put("no ref", beginning(20, 4), true)
		put("a ref behind the last", beginning(20, 4, n), false)
		if many > 0 {
			put("a ref at the last", beginning(20, 4, n-1), true)
			put("a ref at the first", beginning(20, 4, 0), true)
			put("a ref at the first and one behind the last", beginning(20, 4, 0, n), false)
		}
		if many > 1 {
			put("refs at the first and the last", beginning(20, 4, 0, n-1), true)
		}
		if many < 239 {
			put("a ref two behind the last", beginning(20, 4, n+1), false)
			put("two refs behind the last", beginning(20, 4, n, n+1), false)
			put("a ref at the end of all", beginning(20, 4, 239), false)
		}
	}
	// With 240 messages every ref that a message may have is a place.
	full := afterMany(239, beginning(20, 4, 0, 238))
	checkPuts(t, []putCase{
		{"one that is there", 1, full, beginning(20, 4, 0, 238), holding(full...)},
		{"one that is not there", 1, full, beginning(20, 4, 239), noLedger(impl.ErrMany)},
		{"a ref that is too large", 1, full, beginning(20, 4, 240), noLedger(impl.ErrRange)},
	})
}

func TestPutMsgCounts(t *testing.T) {
	for _, many := range []int{1, 2, 30, 238, 239, 240} {
		list := manyMsgs(many)
		for _, at := range []int{0, many / 2, many - 1} {
			checkPuts(t, []putCase{{fmt.Sprintf("%d, the one at %d again", many, at), 1, list, msgAt(at), holding(list...)}})
		}
		want := holding(append(slices.Clone(list), newcomer)...)
		if many == 240 {
			want = noLedger(impl.ErrMany)
		}
		checkPuts(t, []putCase{{fmt.Sprintf("%d, one that is not there", many), 1, list, newcomer, want}})
	}
	checkPuts(t, []putCase{
		{"a fault, ahead of too many", 1, manyMsgs(240), said(2, 1, 0, 1, 1), noLedger(impl.ErrRange)},
		{"a wrong form, ahead of too many", 1, manyMsgs(240), impl.Msg{}, noLedger(impl.ErrForm)},
		{"241", 1, manyMsgs(241), msgAt(0), noLedger(impl.ErrMany)},
	})
}

func TestPutMsgTellsTheFirstCode(t *testing.T) {
	for _, c := range faultyMsgs() {
		checkPuts(t, []putCase{
			{"to none: " + c.name, c.f, nil, c.m, noLedger(c.want)},
			{"to some: " + c.name, c.f, manyMsgs(20), c.m, noLedger(c.want)},
			{"to 240: " + c.name, c.f, manyMsgs(240), c.m, noLedger(c.want)},
		})
	}
	for _, l := range faultyLedgers() {
		for _, m := range msgs(newcomer, impl.Msg{}, said(2, 1, 2, 31, 4), beginning(1, 1, 239), beginning(1, 1, counting(9)...), changing(20, 1)) {
			checkPuts(t, []putCase{{l.name, l.f, l.ledger, m, noLedger(l.want)}})
		}
		for _, c := range faultyMsgs() {
			if c.f == l.f {
				checkPuts(t, []putCase{{l.name + ", and " + c.name, l.f, l.ledger, c.m, noLedger(l.want)}})
			}
		}
		if len(l.ledger) > 0 {
			checkPuts(t, []putCase{{l.name + ", its first", l.f, l.ledger, l.ledger[0], noLedger(l.want)}})
		}
	}
}

func TestSentBy(t *testing.T) {
	mixed := msgs(said(1, 0, 1, 1, 1), said(2, 0, 3, 1, 1), said(2, 0, 1, 1, 1), changing(1, 4), said(2, 0, 3, 1, 2), beginning(1, 1, 3), said(3, 0, 3, 1, 1))
	cases := []struct {
		name   string
		f      int64
		ledger []impl.Msg
		from   int64
		want   impl.IntsResult
	}{
		{"nil", 1, nil, 1, placesOf()},
		{"none", 1, msgs(), 4, placesOf()},
		{"the first one", 1, mixed, 1, placesOf(0, 2, 5)},
		{"one who said nothing", 1, mixed, 2, placesOf()},
		{"several, with others between", 1, mixed, 3, placesOf(1, 4, 6)},
		{"the last replica, f 1", 1, mixed, 4, placesOf(3)},
		{"one more, f 1", 1, mixed, 5, noPlaces(impl.ErrRange)},
		{"the last replica of f 2, f 1", 1, mixed, 7, noPlaces(impl.ErrRange)},
		{"the fifth, f 2", 2, mixed, 5, placesOf()},
		{"the last replica, f 2", 2, append(slices.Clone(mixed), said(1, 1, 7, 1, 1)), 7, placesOf(7)},
		{"one more, f 2", 2, mixed, 8, noPlaces(impl.ErrRange)},
		{"0", 1, mixed, 0, noPlaces(impl.ErrRange)},
		{"0, of none", 1, nil, 0, noPlaces(impl.ErrRange)},
		{"-1", 1, mixed, -1, noPlaces(impl.ErrRange)},
		{"far", 1, mixed, math.MaxInt64, noPlaces(impl.ErrRange)},
		{"far below", 2, mixed, math.MinInt64, noPlaces(impl.ErrRange)},
		{"one who said it all", 1, msgs(said(1, 0, 2, 1, 1), said(1, 0, 2, 1, 2), said(1, 0, 2, 1, 3)), 2, placesOf(0, 1, 2)},
	}
	for _, c := range cases {
		if got := impl.SentBy(c.f, c.ledger, c.from); !sameInts(got, c.want) {
			t.Errorf("%s: SentBy %d: %+v, want %+v", c.name, c.from, got, c.want)
		}
	}
	for _, l := range faultyLedgers() {
		for _, from := range []int64{-1, 0, 1, 2, 4, 5, 8} {
			if got := impl.SentBy(l.f, l.ledger, from); !sameInts(got, noPlaces(l.want)) {
				t.Errorf("%s: SentBy %d: %+v, want the code %d alone", l.name, from, got, l.want)
			}
		}
	}
}

// Of 240 messages each is told once, of who sent it, in order.
func TestSentByTellsEachPlaceOnce(t *testing.T) {
	list := manyMsgs(240)
	var all []int64
	for from := int64(1); from <= 4; from++ {
		places := impl.SentBy(1, list, from).List
		if !modelRises(places) {
			t.Errorf("of %d: %v does not rise", from, places)
		}
		for _, place := range places {
			if list[place].From != from {
				t.Errorf("the message at %d is not from %d", place, from)
			}
		}
		all = append(all, places...)
	}
	slices.Sort(all)
	if !slices.Equal(all, counting(240)) {
		t.Errorf("all places: %v", all)
	}
}

func TestMsgText(t *testing.T) {
	cases := []struct {
		f    int64
		m    impl.Msg
		want string
	}{
		{1, said(1, 0, 1, 1, 0), "propose 0 1 1 0"},
		{1, said(1, 1, 2, 3, 4), "propose 1 2 3 4"},
		{1, said(2, 1, 2, 3, 4), "prepare 1 2 3 4"},
		{1, said(3, 1, 2, 3, 4), "commit 1 2 3 4"},
		{2, said(3, 20, 7, 30, 12), "commit 20 7 30 12"},
		{1, said(2, 9, 4, 10, 9), "prepare 9 4 10 9"},
		{1, said(2, 10, 4, 9, 10), "prepare 10 4 9 10"},
		{1, changing(0, 1), "change 0 1"},
		{1, changing(20, 4), "change 20 4"},
		{1, changing(2, 3, cert(1, 0, 5)), "change 2 3 1.0.5"},
		{1, changing(20, 3, cert(30, 19, 12)), "change 20 3 30.19.12"},
		{1, changing(11, 1, cert(1, 2, 0), cert(9, 10, 11), cert(10, 9, 9), cert(29, 0, 10)), "change 11 1 1.2.0 9.10.11 10.9.9 29.0.10"},
		{1, beginning(0, 1), "new 0 1"},
		{1, beginning(1, 2, 0), "new 1 2 0"},
		{1, beginning(10, 4, 9, 10, 99, 100), "new 10 4 9 10 99 100"},
		{1, beginning(20, 4, 0, 239), "new 20 4 0 239"},
		{2, beginning(20, 7, 0, 1, 2, 3, 4, 5, 6), "new 20 7 0 1 2 3 4 5 6"},
		{1, impl.Msg{Kind: 4, View: 1, From: 1, Certs: certs(), Refs: []int64{}}, "change 1 1"},
		{1, impl.Msg{Kind: 5, View: 1, From: 1, Certs: certs(), Refs: []int64{}}, "new 1 1"},
	}
	for _, c := range cases {
		if got := impl.MsgText(c.f, c.m); got != textOf(c.want) {
			t.Errorf("MsgText of %+v: %+v, want %q", c.m, got, c.want)
		}
	}
	for _, c := range faultyMsgs() {
		if got := impl.MsgText(c.f, c.m); got != noText(c.want) {
			t.Errorf("%s: MsgText of %+v: %+v, want the code %d alone", c.name, c.m, got, c.want)
		}
	}
	for _, c := range fineMsgs {
		got := impl.MsgText(c.f, c.m)
		if got != modelMsgText(c.f, c.m) || got.Text == "" || strings.Join(strings.Fields(got.Text), " ") != got.Text {
			t.Errorf("%s: MsgText of %+v: %+v", c.name, c.m, got)
		}
	}
}

func TestSameMsgs(t *testing.T) {
	for _, c := range append(allMsgs(),
		msgCase{name: "far", m: impl.Msg{Kind: math.MinInt64, View: math.MaxInt64, From: math.MinInt64, Slot: 1, Value: 1, Certs: certs(cert(math.MinInt64, 1, 1)), Refs: []int64{math.MaxInt64}}},
		msgCase{name: "very long lists", m: impl.Msg{Certs: make([]impl.Cert, 300), Refs: make([]int64, 300)}},
	) {
		if !impl.SameMsgs(c.m, c.m) || !impl.SameMsgs(c.m, ownMsg(c.m)) || !impl.SameMsgs(ownMsg(c.m), c.m) {
			t.Errorf("%s: %+v is not the same as itself", c.name, c.m)
		}
		for thing, other := range msgsBeside(c.m) {
			if impl.SameMsgs(c.m, other) || impl.SameMsgs(other, c.m) {
				t.Errorf("%s: %+v is the same as %+v, with another %s", c.name, c.m, other, thing)
			}
		}
	}
	nothing := impl.Msg{Certs: certs(), Refs: []int64{}}
	if !impl.SameMsgs(impl.Msg{}, nothing) || !impl.SameMsgs(nothing, impl.Msg{}) {
		t.Error("nil and empty lists are not the same")
	}
	different := []struct {
		name string
		a, b impl.Msg
	}{
		{"numbers that are swapped", said(2, 1, 2, 3, 4), said(2, 2, 1, 3, 4)},
		{"Slot and Value that are swapped", said(2, 1, 2, 3, 4), said(2, 1, 2, 4, 3)},
		{"Certs in another order", changing(9, 1, certsAt(1, 2)...), changing(9, 1, certsAt(2, 1)...)},
		{"Certs with numbers that are swapped", changing(9, 1, cert(1, 2, 3)), changing(9, 1, cert(1, 3, 2))},
		{"Refs in another order", beginning(9, 1, 1, 2), beginning(9, 1, 2, 1)},
		{"a change and a new of nothing", changing(9, 1), beginning(9, 1)},
	}
	for _, c := range different {
		if impl.SameMsgs(c.a, c.b) || impl.SameMsgs(c.b, c.a) {
			t.Errorf("%s: %+v and %+v are the same", c.name, c.a, c.b)
		}
	}
}

func TestMsgsAreWhatTheModelTells(t *testing.T) {
	t.Parallel()
	r := rand.New(rand.NewPCG(44, 1))
	faults, ledgers, puts, sent := map[int64]int{}, map[int64]int{}, map[int64]int{}, map[int64]int{}
	kinds, same, there := map[int64]int{}, 0, 0
	for range 6000 {
		c := drawnMsgCall(r)
		got, want := programMsgs(c), modelMsgs(c)
		if !sameMsgAnswers(got, want) {
			t.Fatalf("of %+v:\n%+v, want\n%+v", c, got, want)
		}
		faults[got.fault]++
		ledgers[got.ledgerFault]++
		puts[got.put.Code]++
		sent[got.sent.Code]++
		if got.fault == impl.OK {
			kinds[c.one.Kind]++
		}
		if got.same {
			same++
		}
		if got.put.Code == impl.OK && len(got.put.Ledger) == len(c.ledger) {
			there++
		}
	}
	for _, code := range []int64{impl.OK, impl.ErrForm, impl.ErrMany, impl.ErrRange} {
		if faults[code] < 20 || ledgers[code] < 20 || puts[code] < 20 || sent[code] < 20 {
			t.Errorf("the code %d was told only %d times of messages, %d of ledgers, %d where one was put, %d of who sent", code, faults[code], ledgers[code], puts[code], sent[code])
		}
	}
	for _, code := range []int64{impl.ErrNone, impl.ErrTaken} {
		if ledgers[code] < 20 || puts[code] < 20 || sent[code] < 20 {
			t.Errorf("the code %d was told only %d times of ledgers, %d where one was put, %d of who sent", code, ledgers[code], puts[code], sent[code])
		}
	}
	for kind := int64(1); kind <= 5; kind++ {
		if kinds[kind] < 300 {
			t.Errorf("the kind %d was drawn only %d times", kind, kinds[kind])
		}
	}
	if same < 500 || there < 300 {
		t.Errorf("only %d were the same, %d were there already", same, there)
	}
}

// timesIn is how often a message is in a ledger, and at which place it is last.
func timesIn(ledger []impl.Msg, m impl.Msg) (int, int) {
	times, last := 0, -1
	for place, other := range ledger {
		if equalMsgs(other, m) {
			times++
			last = place
		}
	}
	return times, last
}

// Promise 9: what was put is there, once, and nothing that was there is lost: it stands at its place.
func TestPutIsThereOnce(t *testing.T) {
	full, again := 0, 0
	for seed := range uint64(60) {
		r := rand.New(rand.NewPCG(seed, 45))
		f := 1 + r.Int64N(2)
		var ledger []impl.Msg
		for range drawn(r, []int{10, 50, 400}) {
			m := drawnMsg(r, f, len(ledger))
			if len(ledger) > 0 && r.IntN(4) == 0 {
				m = ownMsg(drawn(r, ledger))
			}
			had, at := timesIn(ledger, m)
			got := impl.PutMsg(f, ledger, m)
			if had == 0 && len(ledger) == 240 {
				full++
				if !samePut(got, noLedger(impl.ErrMany)) {
					t.Fatalf("to 240: %+v", got.Code)
				}
				continue
			}
			if had == 0 {
				at = len(ledger)
			}
			again += had
			if times, place := timesIn(got.Ledger, m); got.Code != impl.OK || times != 1 || place != at {
				t.Fatalf("%+v is there %d times, at %d, want once at %d; the code %d", m, times, place, at, got.Code)
			}
			if len(got.Ledger) != len(ledger)+1-had || !sameLedgers(got.Ledger[:len(ledger)], ledger) {
				t.Fatalf("%+v to %+v: %+v", m, ledger, got.Ledger)
			}
			ledger = got.Ledger
		}
	}
	if full < 100 || again < 300 {
		t.Errorf("only %d were too many, %d were there", full, again)
	}
}

// Promise 9: however often a message is put, it is as if it were put once.
func TestPutTwiceIsPutOnce(t *testing.T) {
	r := rand.New(rand.NewPCG(46, 46))
	for range 500 {
		c := drawnFineMsgs(r)
		once := impl.PutMsg(c.f, c.ledger, c.one)
		if once.Code != impl.OK {
			continue
		}
		ledger := once.Ledger
		for range 3 {
			twice := impl.PutMsg(c.f, ledger, ownMsg(c.one))
			if !samePut(twice, once) {
				t.Fatalf("%+v put again: %+v, want %+v", c.one, twice, once)
			}
			ledger = twice.Ledger
		}
	}
}

// Promise 9: a ledger that is made of PutMsg alone has no fault, whatever is put; what has a code leaves it to whoever asked.
func TestPutLedgersHaveNoFault(t *testing.T) {
	refused := map[int64]int{}
	for seed := range uint64(40) {
		r := rand.New(rand.NewPCG(seed, 47))
		f := 1 + r.Int64N(2)
		var ledger []impl.Msg
		for range drawn(r, []int{30, 100, 300}) {
			m := drawnMsg(r, f, len(ledger)+2)
			if r.IntN(3) == 0 {
				m = spoiltMsg(r, m)
			}
			got := impl.PutMsg(f, ledger, m)
			refused[got.Code]++
			if got.Code != impl.OK {
				if got.Ledger != nil {
					t.Fatalf("beside a code: %+v", got)
				}
				continue
			}
			if code := impl.LedgerFault(f, got.Ledger); code != impl.OK {
				t.Fatalf("%+v to %+v: the ledger has the code %d", m, ledger, code)
			}
			if code := impl.MsgFault(f, m); code != impl.OK {
				t.Fatalf("%+v was put, and has the code %d", m, code)
			}
			ledger = got.Ledger
		}
		for place, m := range ledger {
			if !slices.Contains(impl.SentBy(f, ledger, m.From).List, int64(place)) {
				t.Fatalf("%+v at %d is not among what %d sent", m, place, m.From)
			}
		}
	}
	for _, code := range []int64{impl.OK, impl.ErrForm, impl.ErrMany, impl.ErrRange, impl.ErrNone} {
		if refused[code] < 20 {
			t.Errorf("the code %d was told only %d times", code, refused[code])
		}
	}
}

// Two messages have one text just where they are the same, if neither has a fault.
func TestMsgTextTellsMessagesApart(t *testing.T) {
	t.Parallel()
	r := rand.New(rand.NewPCG(48, 48))
	same, other := 0, 0
	for range 6000 {
		c := drawnFineMsgs(r)
		if r.IntN(3) > 0 {
			c.other = spoiltMsg(r, c.one)
		}
		if impl.MsgFault(c.f, c.other) != impl.OK {
			continue
		}
		alike := impl.MsgText(c.f, c.one) == impl.MsgText(c.f, c.other)
		if alike != impl.SameMsgs(c.one, c.other) {
			t.Fatalf("%+v and %+v have the same text: %v", c.one, c.other, alike)
		}
		if alike {
			same++
		} else {
			other++
		}
	}
	if same < 300 || other < 300 {
		t.Errorf("only %d were the same, %d were not", same, other)
	}
}

// Promise 1: every argument has an answer, however long a list is or how odd its numbers are.
func TestEveryMsgIsAnswered(t *testing.T) {
	t.Parallel()
	far := []int64{math.MinInt64, -1, 0, 1, 2, 4, 5, 7, 12, 30, 31, 240, math.MaxInt64}
	lists := [][]int64{nil, {}, {math.MinInt64}, {math.MaxInt64}, {math.MinInt64, math.MaxInt64}, {0, math.MaxInt64, math.MinInt64}, make([]int64, 1<<12)}
	for i, kind := range far {
		for j, n := range far {
			for k, refs := range lists {
				odd := impl.Msg{Kind: kind, View: n, From: far[(i+j)%len(far)], Slot: far[(i+k)%len(far)], Value: far[(j+k)%len(far)]}
				bare, change, start := odd, changing(n, 1, make([]impl.Cert, len(refs))...), beginning(n, 1, refs...)
				odd.Certs, odd.Refs = certs(cert(n, kind, n)), refs
				for _, m := range msgs(odd, bare, change, start, changing(20, 1, cert(n, kind, n))) {
					ledgers := [][]impl.Msg{nil, {}, {m}, {newcomer, m}, slices.Repeat(msgs(m), 1<<8)}
					c := msgCall{f: far[(i+j+k)%6], ledger: ledgers[(i+j)%len(ledgers)], one: m, other: odd, from: n}
					if got, want := programMsgs(c), modelMsgs(c); !sameMsgAnswers(got, want) {
						t.Fatalf("of %.300s: %+v, want %+v", fmt.Sprint(c), got, want)
					}
				}
			}
		}
	}
}

// Promise 1: an answer hangs on the arguments alone, so it is the same in whatever order it is asked.
func TestMsgAnswersHangOnArgumentsAlone(t *testing.T) {
	r := rand.New(rand.NewPCG(49, 49))
	checkAgain(t, drawnMany(r, 300, drawnMsgCall), programMsgs, sameMsgAnswers)
}

// drawnOwnMsgCall draws a call of which nothing lies where anything else does.
func drawnOwnMsgCall(r *rand.Rand) msgCall {
	c := drawnMsgCall(r)
	if len(c.ledger) > 60 {
		c.ledger = c.ledger[:10]
	}
	c.ledger, c.one, c.other = ownLedger(c.ledger), ownMsg(c.one), ownMsg(c.other)
	return c
}

// sharedLists tells whether any list of the messages of the one lies where one of the other does.
func sharedLists(ones []impl.Msg, others []impl.Msg) bool {
	for _, one := range ones {
		for _, other := range others {
			if sharesRoom(one.Certs, other.Certs) || sharesRoom(one.Refs, other.Refs) || sharesRoom(one.Certs, other.Refs) || sharesRoom(one.Refs, other.Certs) {
				return true
			}
		}
	}
	return false
}

// listsApart tells whether no two lists of these messages lie in one place.
func listsApart(ledger []impl.Msg) bool {
	for i, m := range ledger {
		if sharedLists(ledger[:i], msgs(m)) || sharesRoom(m.Certs, m.Refs) {
			return false
		}
	}
	return true
}

func checkNewLedger(t *testing.T, c msgCall, a msgAnswers) {
	t.Helper()
	got := a.put.Ledger
	if sharesRoom(got, c.ledger) || sharedLists(got, c.ledger) || sharedLists(got, msgs(c.one)) {
		t.Fatalf("of %+v: %+v shares memory with what was handed in", c, got)
	}
	if !listsApart(got) {
		t.Fatalf("of %+v: two lists of %+v share memory", c, got)
	}
	for _, m := range append(slices.Clone(c.ledger), c.one) {
		if sharesRoom(a.sent.List, m.Refs) || sharesRoom(a.sent.List, m.Certs) {
			t.Fatalf("of %+v: %+v shares memory with what was handed in", c, a.sent)
		}
	}
}

// wipeLedger writes over all that a ledger holds, and over the room behind it.
func wipeLedger(ledger []impl.Msg) {
	for _, m := range ledger {
		clear(m.Certs[:cap(m.Certs)])
		clear(m.Refs[:cap(m.Refs)])
	}
	clear(ledger[:cap(ledger)])
}

// Promise 1: what is answered shares no memory with what is handed in, nor two lists of one answer with each other.
func TestMsgAnswersAreNewMemory(t *testing.T) {
	t.Parallel()
	r := rand.New(rand.NewPCG(50, 50))
	put := 0
	for range 2500 {
		c := drawnOwnMsgCall(r)
		a := programMsgs(c)
		checkNewLedger(t, c, a)
		if a.put.Code == impl.OK {
			put++
		}
		again := programMsgs(c)
		if sharesRoom(again.put.Ledger, a.put.Ledger) || sharedLists(again.put.Ledger, a.put.Ledger) || sharesRoom(again.sent.List, a.sent.List) || sharesMemory(again.text.Text, a.text.Text) {
			t.Fatalf("of %+v: two answers share memory", c)
		}
		wipeLedger(a.put.Ledger)
		clear(a.sent.List[:cap(a.sent.List)])
		if want := modelMsgs(c); !sameMsgAnswers(again, want) {
			t.Fatalf("of %+v: who writes into an answer turns another", c)
		}
	}
	if put < 800 {
		t.Errorf("only %d were put", put)
	}
}

// Promise 1: also where the messages that are handed in have one list among them, or lists that lie in one place.
func TestMsgAnswersShareNoListsAmongThem(t *testing.T) {
	one, refs := certsUpTo(9), counting(9)
	ledger := msgs(changing(3, 1, one...), changing(4, 1, one...), changing(5, 1, one[:4]...), changing(5, 1, one[2:6]...), changing(6, 1, one[:0]...), beginning(1, 1, refs[:2]...), beginning(1, 1, refs[1:3]...), beginning(2, 1, refs[:2]...))
	for _, m := range msgs(changing(9, 1, one...), beginning(9, 1, refs[:3]...), ledger[0], ledger[7]) {
		c := msgCall{f: 1, ledger: ledger, one: m, other: m, from: 1}
		got := programMsgs(c)
		if got.put.Code != impl.OK {
			t.Fatalf("of %+v: %+v", m, got.put)
		}
		checkNewLedger(t, c, got)
		want := modelMsgs(c)
		want.put.Ledger = ownLedger(want.put.Ledger)
		clear(one)
		clear(refs)
		if !sameMsgAnswers(got, want) {
			t.Fatalf("who writes into what was handed in turns the answer: %+v, want %+v", got, want)
		}
		copy(one, certsUpTo(9))
		copy(refs, counting(9))
	}
}

// wholeMsg is a message with the room behind its lists in view.
func wholeMsg(m impl.Msg) impl.Msg {
	m.Certs, m.Refs = m.Certs[:cap(m.Certs)], m.Refs[:cap(m.Refs)]
	return m
}

func wholeLedger(ledger []impl.Msg) []impl.Msg {
	var whole []impl.Msg
	for _, m := range ledger[:cap(ledger)] {
		whole = append(whole, wholeMsg(m))
	}
	return whole
}

// Promise 1: no call changes the ledger, the messages, their Certs or their Refs that are handed in, nor what lies behind them.
func TestMsgArgumentsStayAsTheyAre(t *testing.T) {
	r := rand.New(rand.NewPCG(51, 51))
	for range 2500 {
		c := drawnOwnMsgCall(r)
		oldLedger, oldOne, oldOther := ownLedger(wholeLedger(c.ledger)), ownMsg(wholeMsg(c.one)), ownMsg(wholeMsg(c.other))
		programMsgs(c)
		impl.SameMsgs(c.other, c.one)
		if !sameLedgers(wholeLedger(c.ledger), oldLedger) || !equalMsgs(wholeMsg(c.one), oldOne) || !equalMsgs(wholeMsg(c.other), oldOther) {
			t.Fatalf("changed: %+v", c)
		}
	}
}
