package tests

import (
	"math"
	"math/rand/v2"
	"slices"
	"strings"
	"testing"

	"loop.example/g00369/impl"
)

func marked(client int64, number int64, reply impl.Reply) impl.Mark {
	return impl.Mark{Client: client, Number: number, Reply: reply}
}

func withCode(code int64) impl.Reply {
	return impl.Reply{Code: code}
}

func withValue(value int64) impl.Reply {
	return impl.Reply{Value: value}
}

func withWhere(path string) impl.Reply {
	return impl.Reply{Path: path}
}

// codeAt is the reply of a request whose operation at this place has a code.
func codeAt(code int64, place int64) impl.Reply {
	return impl.Reply{Code: code, Value: place}
}

func noState(code int64) impl.StateResult {
	return impl.StateResult{Code: code}
}

// busy is a state at 100: the session of 1 is there until 107, that of 2 is at its last moment, that of 3 is over; 4 to 9 have none, though 9 owns a node.
func busy() impl.State {
	return impl.State{
		Nodes: []impl.Znode{
			{Path: "/", Data: 1, Version: 2, Next: 3},
			{Path: "/a", Data: 40, Version: 5, Next: 99},
			{Path: "/a/b", Data: 50, Version: 1, Owner: 1},
			{Path: "/a/c", Data: 60, Version: 999, Owner: 2},
			{Path: "/abcdefgh", Data: 65},
			{Path: "/abcdefgh/abcdefgh", Data: 66, Version: 998},
			{Path: "/b", Data: 70, Owner: 3},
			{Path: "/c", Data: 9999, Version: 999, Next: 100},
			{Path: "/d", Owner: 1},
			{Path: "/e", Data: 80, Version: 7, Owner: 9},
		},
		Sessions: thereBy(1, 107, 2, 100, 3, 99),
		Now:      100,
		Marks:    []impl.Mark{marked(1, 1, withValue(7)), marked(1, 2, codeAt(impl.ErrNone, 1)), marked(2, 1, impl.Reply{Value: -1, Path: "what\xff"})},
	}
}

// busyBut is busy with something of it turned, or as it is.
func busyBut(turn func(*impl.State)) impl.State {
	s := busy()
	if turn != nil {
		turn(&s)
	}
	return s
}

func nodeIn(s *impl.State, path string) *impl.Znode {
	return &s.Nodes[slices.IndexFunc(s.Nodes, func(z impl.Znode) bool { return z.Path == path })]
}

func drop(s *impl.State, paths ...string) {
	s.Nodes = but(s.Nodes, paths...)
}

// hang puts a node where it belongs.
func hang(s *impl.State, z impl.Znode) {
	s.Nodes = append(s.Nodes, z)
	slices.SortFunc(s.Nodes, func(a impl.Znode, b impl.Znode) int { return strings.Compare(a.Path, b.Path) })
}

// manyMarks are marks no two of which have both Client and Number.
func manyMarks(many int) []impl.Mark {
	var marks []impl.Mark
	for i := range int64(many) {
		marks = append(marks, marked(i%9+1, i/9+1, withValue(i)))
	}
	return marks
}

func TestStateBounds(t *testing.T) {
	if impl.MaxMarks != 40 {
		t.Errorf("MaxMarks %d, want 40", impl.MaxMarks)
	}
}

type stateCase struct {
	name string
	s    impl.State
	want int64
}

func withMarks(marks ...impl.Mark) impl.State {
	return busyBut(func(s *impl.State) { s.Marks = marks })
}

func withNow(now int64) impl.State {
	return busyBut(func(s *impl.State) { s.Now = now })
}

// faultyMarks have a fault in their marks, or in Now, alone.
func faultyMarks() []stateCase {
	fine, wrong := marked(1, 1, impl.Reply{}), marked(1, 100, impl.Reply{})
	taken := marked(1, 1, withValue(5))
	both := marked(1, 1, withValue(-2))
	return []stateCase{
		{"a Now of -1", withNow(-1), impl.ErrRange},
		{"a Now of 9001", withNow(9001), impl.ErrRange},
		{"the least Now", withNow(math.MinInt64), impl.ErrRange},
		{"the greatest Now", withNow(math.MaxInt64), impl.ErrRange},
		{"41 marks", withMarks(manyMarks(41)...), impl.ErrMany},
		{"41 marks that are none", withMarks(make([]impl.Mark, 41)...), impl.ErrMany},
		{"40 marks that are none", withMarks(make([]impl.Mark, 40)...), impl.ErrRange},
		{"a last mark of 40 that is none", withMarks(append(manyMarks(39), impl.Mark{})...), impl.ErrRange},
		{"the same as the first, the last of 40", withMarks(append(manyMarks(39), manyMarks(1)...)...), impl.ErrTaken},
		{"the same as the one ahead", withMarks(fine, fine), impl.ErrTaken},
		{"of the same Client and Number as the one ahead", withMarks(fine, taken), impl.ErrTaken},
		{"of the same Client and Number as the first of three", withMarks(fine, marked(1, 2, impl.Reply{}), taken), impl.ErrTaken},
		{"of the same Client and Number as the second of three", withMarks(marked(1, 2, impl.Reply{}), fine, taken), impl.ErrTaken},
		{"in one: a wrong Value ahead of a mark that is taken", withMarks(fine, both), impl.ErrRange},
		{"in one: a wrong Code ahead of a mark that is taken", withMarks(fine, marked(1, 1, withCode(11))), impl.ErrRange},
		{"in one: a long Path ahead of a mark that is taken", withMarks(fine, marked(1, 1, withWhere(strings.Repeat("/", 25)))), impl.ErrRange},
		{"in two: a mark that is taken ahead of a wrong one", withMarks(fine, taken, wrong), impl.ErrTaken},
		{"in two: a wrong mark ahead of one that is taken", withMarks(fine, wrong, taken), impl.ErrRange},
		{"in two: two wrong marks that are the same", withMarks(wrong, wrong), impl.ErrRange},
	}
}

// faultyStates have a fault in one of all that a state has.
func faultyStates() []stateCase {
	all := faultyMarks()
	for _, c := range faultyTrees {
		all = append(all, stateCase{"a tree: " + c.name, busyBut(func(s *impl.State) { s.Nodes = c.nodes }), c.want})
	}
	for _, c := range faultySessions {
		all = append(all, stateCase{"sessions: " + c.name, busyBut(func(s *impl.State) { s.Sessions = c.list }), c.want})
	}
	return all
}

func checkStateFault(t *testing.T, name string, s impl.State, want int64) {
	t.Helper()
	if got := impl.StateFault(s); got != want {
		t.Errorf("%s: StateFault %d, want %d", name, got, want)
	}
}

func TestStateFault(t *testing.T) {
	for _, c := range faultyStates() {
		checkStateFault(t, c.name, c.s, c.want)
	}
	checkStateFault(t, "busy", busy(), impl.OK)
	checkStateFault(t, "the top alone", impl.State{Nodes: treeOf()}, impl.OK)
	checkStateFault(t, "empty lists", impl.State{Nodes: treeOf(), Sessions: []impl.Session{}, Marks: []impl.Mark{}}, impl.OK)
	checkStateFault(t, "nothing", impl.State{}, impl.ErrNone)
	checkStateFault(t, "a Now of 0", withNow(0), impl.OK)
	checkStateFault(t, "a Now of 9000", withNow(9000), impl.OK)
	checkStateFault(t, "no marks", withMarks(), impl.OK)
	checkStateFault(t, "1 mark", withMarks(manyMarks(1)...), impl.OK)
	checkStateFault(t, "40 marks", withMarks(manyMarks(40)...), impl.OK)
	checkStateFault(t, "two of the same Client", withMarks(marked(3, 4, impl.Reply{}), marked(3, 5, impl.Reply{})), impl.OK)
	checkStateFault(t, "two of the same Number", withMarks(marked(3, 4, impl.Reply{}), marked(5, 4, impl.Reply{})), impl.OK)
	checkStateFault(t, "two of the same numbers, turned about", withMarks(marked(3, 4, impl.Reply{}), marked(4, 3, impl.Reply{})), impl.OK)
	checkStateFault(t, "two of the same Reply", withMarks(marked(3, 4, withValue(5)), marked(4, 5, withValue(5))), impl.OK)
	checkStateFault(t, "marks that fall", withMarks(marked(9, 99, impl.Reply{}), marked(9, 1, impl.Reply{}), marked(1, 50, impl.Reply{})), impl.OK)
}

// edges are numbers at and beside all bounds that a state has.
var edges = []int64{math.MinInt64, -9999, -2, -1, 0, 1, 2, 8, 9, 10, 11, 98, 99, 100, 101, 256, 8999, 9000, 9001, 9998, 9999, 10000, 65536, 1 << 32, 1<<32 + 1, math.MaxInt64}

func TestStateFaultAsksMarks(t *testing.T) {
	code := func(n int64, least int64, most int64) int64 {
		if n >= least && n <= most {
			return impl.OK
		}
		return impl.ErrRange
	}
	check := func(name string, m impl.Mark, want int64) {
		t.Helper()
		other := marked(5, 50, impl.Reply{})
		checkStateFault(t, name+", alone", withMarks(m), want)
		checkStateFault(t, name+", the first", withMarks(m, other), want)
		checkStateFault(t, name+", the last", withMarks(other, m), want)
	}
	for _, n := range edges {
		check("a Client", marked(n, 7, impl.Reply{}), code(n, 1, 9))
		check("a Number", marked(7, n, impl.Reply{}), code(n, 1, 99))
		check("a Code", marked(7, 7, withCode(n)), code(n, 0, 10))
		check("a Value", marked(7, 7, withValue(n)), code(n, -1, 9999))
	}
	for _, one := range []string{"/", "a", "/a", " ", "\x00", "\xff", "\n", "\u00e9"} {
		for size := range 30 {
			path := strings.Repeat(one, 30)[:size]
			check("a Path", marked(7, 7, withWhere(path)), code(int64(size), 0, 24))
		}
		check("a very long Path", marked(7, 7, withWhere(strings.Repeat(one, 1<<16))), impl.ErrRange)
	}
}

func TestStateFaultTellsTheFirstCode(t *testing.T) {
	nodes, sessions := treeOf("/a", "/a/"), thereAs(5, 4, 4)
	many, taken := manyMarks(41), append(manyMarks(1), manyMarks(1)...)
	cases := []stateCase{
		{"a tree ahead of sessions", impl.State{Nodes: nodes, Sessions: sessions}, impl.ErrText},
		{"a tree ahead of Now", impl.State{Nodes: nodes, Now: -1}, impl.ErrText},
		{"a tree ahead of many marks", impl.State{Nodes: nodes, Marks: many}, impl.ErrText},
		{"a tree ahead of a mark", impl.State{Nodes: nodes, Marks: taken}, impl.ErrText},
		{"sessions ahead of Now", impl.State{Nodes: treeOf(), Sessions: sessions, Now: 9001}, impl.ErrForm},
		{"sessions ahead of many marks", impl.State{Nodes: treeOf(), Sessions: sessions, Marks: many}, impl.ErrForm},
		{"sessions ahead of a mark", impl.State{Nodes: treeOf(), Sessions: sessions, Marks: taken}, impl.ErrForm},
		{"Now ahead of many marks", impl.State{Nodes: treeOf(), Now: 9001, Marks: many}, impl.ErrRange},
		{"Now ahead of a mark", impl.State{Nodes: treeOf(), Now: -1, Marks: taken}, impl.ErrRange},
		{"all of them", impl.State{Nodes: nodes, Sessions: sessions, Now: -1, Marks: many}, impl.ErrText},
		{"all but the tree", impl.State{Nodes: treeOf(), Sessions: sessions, Now: -1, Marks: many}, impl.ErrForm},
	}
	for _, c := range cases {
		checkStateFault(t, c.name, c.s, c.want)
	}
}

func TestNewState(t *testing.T) {
	for _, now := range edges {
		want := noState(impl.ErrRange)
		if now >= 0 && now <= 9000 {
			want = impl.StateResult{State: impl.State{Nodes: []impl.Znode{{Path: "/"}}, Now: now}}
		}
		got := impl.NewState(now)
		if !sameState(got, want) {
			t.Errorf("NewState of %d: %+v, want %+v", now, got, want)
		}
		if got.Code == impl.OK {
			checkStateFault(t, "a new state", got.State, impl.OK)
		}
	}
}

// checkNothingTold asks that all that take a state tell one code and nothing else.
func checkNothingTold(t *testing.T, name string, s impl.State, client int64, o impl.Op, r impl.Request, want int64) {
	t.Helper()
	if got := impl.ApplyOp(s, client, o); !sameState(got, noState(want)) {
		t.Errorf("%s: ApplyOp of %d and %+v: %+v, want the code %d alone", name, client, o, got, want)
	}
	if got := impl.ApplyRequest(s, r); !sameState(got, noState(want)) {
		t.Errorf("%s: ApplyRequest of %+v: %+v, want the code %d alone", name, r, got, want)
	}
}

func TestStateIsAskedFirst(t *testing.T) {
	wrong := impl.Op{Kind: 9}
	for _, c := range faultyStates() {
		for _, client := range []int64{1, 3, 9, 0, 10, math.MinInt64} {
			for _, o := range []impl.Op{opOpen, opClose, getOf("/"), withOwn(create("/n", 5)), wrong, getOf("/A")} {
				checkNothingTold(t, c.name, c.s, client, o, asked(client, 1, 100, o), c.want)
				checkNothingTold(t, c.name, c.s, client, o, asked(client, 9, 9001, o, opOpen), c.want)
			}
			for _, number := range []int64{0, 1, 2, 100} {
				if got := impl.MarkOf(c.s, client, number); got != (impl.ReplyResult{Code: c.want}) {
					t.Errorf("%s: MarkOf %d and %d: %+v, want the code %d alone", c.name, client, number, got, c.want)
				}
			}
		}
		if got := impl.RootIn(c.s); got != noValue(c.want) {
			t.Errorf("%s: RootIn %v, want the code %d alone", c.name, got, c.want)
		}
	}
}

// wrongOps have one operation for each code that an OpFault can be.
var wrongOps = []struct {
	o    impl.Op
	code int64
}{
	{impl.Op{}, impl.ErrForm},
	{impl.Op{Kind: 9}, impl.ErrForm},
	{withPath(opOpen, "/a"), impl.ErrForm},
	{withOwn(getOf("/a")), impl.ErrForm},
	{getOf("/A"), impl.ErrText},
	{kidsOf(""), impl.ErrText},
	{getOf("/a/b/c/d/e"), impl.ErrMany},
	{create("/n", 10000), impl.ErrRange},
	{setOf("/a", -1, 5), impl.ErrRange},
	{deleteOf("/d", -2), impl.ErrRange},
	{checkOf("/a", 1000), impl.ErrRange},
}

func TestApplyOpAsksClientAndOperation(t *testing.T) {
	s := busy()
	for _, client := range edges {
		right := client >= 1 && client <= 9
		for _, o := range oneOfEach {
			got := impl.ApplyOp(s, client, o)
			if right != (got.Code == impl.OK) || !right && !sameState(got, noState(impl.ErrRange)) {
				t.Errorf("of %d: %+v of %+v", client, got, o)
			}
		}
		for _, wrong := range wrongOps {
			want := noState(impl.ErrRange)
			if right {
				want = noState(wrong.code)
			}
			if got := impl.ApplyOp(s, client, wrong.o); !sameState(got, want) {
				t.Errorf("of %d: %+v of %+v, want %+v", client, got, wrong.o, want)
			}
		}
	}
}

func TestApplyRequestAsksTheRequest(t *testing.T) {
	get := getOf("/a")
	check := func(name string, r impl.Request, want int64) {
		t.Helper()
		for _, s := range []impl.State{busy(), withMarks(manyMarks(40)...)} {
			if got := impl.ApplyRequest(s, r); !sameState(got, noState(want)) {
				t.Errorf("%s: %+v of %+v, want the code %d alone", name, got, r, want)
			}
		}
	}
	for _, n := range []int64{math.MinInt64, -1, 0, 10, 100, math.MaxInt64} {
		check("a wrong Client", asked(n, 1, 100, get), impl.ErrRange)
		check("a wrong Number", asked(1, n*10, 100, get), impl.ErrRange)
	}
	// The mark of 1 and 1 is there in all these states: a fault is asked ahead of it.
	for _, time := range []int64{math.MinInt64, -1, 9001, math.MaxInt64} {
		check("a wrong Time", asked(1, 1, time, get), impl.ErrRange)
	}
	check("no Ops", asked(1, 1, 100), impl.ErrMany)
	check("four Ops", asked(1, 1, 100, get, get, get, get), impl.ErrMany)
	check("an open among others", asked(1, 1, 100, get, opOpen), impl.ErrForm)
	check("a close among others", asked(1, 1, 100, opClose, get), impl.ErrForm)
	for _, wrong := range wrongOps {
		check("a wrong Op, alone", asked(1, 1, 100, wrong.o), wrong.code)
		check("a wrong Op, the first", asked(1, 1, 100, wrong.o, get), wrong.code)
		check("a wrong Op, the last", asked(1, 9, 100, get, getOf("/zz"), wrong.o), wrong.code)
	}
}

type didCase struct {
	name   string
	client int64
	o      impl.Op
	reply  impl.Reply
	turn   func(*impl.State)
}

// checkDid asks what came of operations in the busy state, and what it is behind each.
func checkDid(t *testing.T, cases []didCase) {
	t.Helper()
	for _, c := range cases {
		want := impl.StateResult{Reply: c.reply, State: busyBut(c.turn)}
		got := impl.ApplyOp(busy(), c.client, c.o)
		if !sameState(got, want) {
			t.Errorf("%s: %+v of %d:\n%+v, want\n%+v", c.name, c.o, c.client, got, want)
		}
		checkStateFault(t, c.name, got.State, impl.OK)
	}
}

func TestOperationsNeedALiveSession(t *testing.T) {
	cases := slices.Concat(oneOfEach[1:], []impl.Op{create("/n", 5), create("/", 5), create("/zz/n", 5), deleteOf("/", -1), deleteOf("/zz", -1), setOf("/zz", 5, -1), setOf("/a", 5, 6), getOf("/zz"), kidsOf("/"), kidsOf("/zz"), checkOf("/", -1), checkOf("/zz", 0)})
	for _, o := range cases {
		checkDid(t, []didCase{
			{"with a session that is over", 3, o, withCode(impl.ErrSession), nil},
			{"with none", 4, o, withCode(impl.ErrSession), nil},
			{"with none, though 9 owns a node", 9, o, withCode(impl.ErrSession), nil},
		})
		// At its last moment a session is as good as any other.
		lasting := busyBut(func(s *impl.State) { s.Sessions[1].Until = 9999 })
		last, live := impl.ApplyOp(busy(), 2, o), impl.ApplyOp(lasting, 2, o)
		if last.Code != impl.OK || last.Reply.Code == impl.ErrSession || last.Reply != live.Reply || !slices.Equal(last.State.Nodes, live.State.Nodes) {
			t.Errorf("%+v at the last moment: %+v, and before it %+v", o, last, live)
		}
		behind := busyBut(func(s *impl.State) { s.Now = 101 })
		if got := impl.ApplyOp(behind, 2, o); !sameState(got, impl.StateResult{Reply: withCode(impl.ErrSession), State: behind}) {
			t.Errorf("%+v just behind the last moment: %+v", o, got)
		}
	}
}

func TestApplyOpOpens(t *testing.T) {
	open := func(sessions ...int64) func(*impl.State) {
		return func(s *impl.State) { s.Sessions = thereBy(sessions...) }
	}
	checkDid(t, []didCase{
		{"who has none", 4, opOpen, impl.Reply{}, open(1, 107, 2, 100, 3, 99, 4, 110)},
		{"who has none, the last one", 9, opOpen, impl.Reply{}, open(1, 107, 2, 100, 3, 99, 9, 110)},
		{"who has one", 1, opOpen, withCode(impl.ErrTaken), nil},
		{"who has one at its last moment", 2, opOpen, withCode(impl.ErrTaken), nil},
		{"who has one that is over", 3, opOpen, withCode(impl.ErrTaken), nil},
	})
	full := busyBut(open(1, 107, 2, 100, 3, 99, 5, 0, 6, 9999, 8, 100))
	for client, code := range map[int64]int64{1: impl.ErrTaken, 4: impl.ErrMany, 5: impl.ErrTaken, 7: impl.ErrMany, 8: impl.ErrTaken, 9: impl.ErrMany} {
		if got, want := impl.ApplyOp(full, client, opOpen), (impl.StateResult{Reply: withCode(code), State: full}); !sameState(got, want) {
			t.Errorf("with 6 there, of %d: %+v, want %+v", client, got, want)
		}
	}
	for _, now := range []int64{0, 9000} {
		s := impl.NewState(now).State
		want := s
		want.Sessions = thereBy(7, now+10)
		if got := impl.ApplyOp(s, 7, opOpen); !sameState(got, impl.StateResult{State: want}) {
			t.Errorf("the first, at %d: %+v, want %+v", now, got, want)
		}
	}
}

func TestApplyOpCloses(t *testing.T) {
	checkDid(t, []didCase{
		{"who owns two nodes", 1, opClose, impl.Reply{}, func(s *impl.State) {
			s.Sessions = thereBy(2, 100, 3, 99)
			drop(s, "/a/b", "/d")
		}},
		{"who owns one, at the last moment", 2, opClose, impl.Reply{}, func(s *impl.State) {
			s.Sessions = thereBy(1, 107, 3, 99)
			drop(s, "/a/c")
		}},
		{"whose session is over", 3, opClose, withCode(impl.ErrSession), nil},
		{"who has no session, and owns a node", 9, opClose, withCode(impl.ErrSession), nil},
		{"who has no session", 5, opClose, withCode(impl.ErrSession), nil},
	})
	alone := busyBut(func(s *impl.State) { s.Sessions = thereBy(6, 100) })
	want := alone
	want.Sessions = nil
	if got := impl.ApplyOp(alone, 6, opClose); !sameState(got, impl.StateResult{State: want}) {
		t.Errorf("who owns nothing and is there alone: %+v", got)
	}
	again := impl.ApplyOp(want, 6, opClose)
	if !sameState(again, impl.StateResult{Reply: withCode(impl.ErrSession), State: want}) {
		t.Errorf("who has closed: %+v", again)
	}
	if reopened := impl.ApplyOp(want, 6, opOpen); !slices.Equal(reopened.State.Sessions, thereBy(6, 110)) || reopened.Reply != (impl.Reply{}) {
		t.Errorf("who has closed opens: %+v", reopened)
	}
}

func TestApplyOpCreates(t *testing.T) {
	made := func(z impl.Znode) func(*impl.State) {
		return func(s *impl.State) { hang(s, z) }
	}
	numbered := func(parent string, z impl.Znode) func(*impl.State) {
		return func(s *impl.State) {
			hang(s, z)
			nodeIn(s, parent).Next++
		}
	}
	checkDid(t, []didCase{
		{"neither", 1, create("/n", 5), withWhere("/n"), made(impl.Znode{Path: "/n", Data: 5})},
		{"own", 1, withOwn(create("/n", 5)), withWhere("/n"), made(impl.Znode{Path: "/n", Data: 5, Owner: 1})},
		{"own of another one", 2, withOwn(create("/n", 9999)), withWhere("/n"), made(impl.Znode{Path: "/n", Data: 9999, Owner: 2})},
		{"seq", 1, withSeq(create("/n", 5)), withWhere("/n03"), numbered("/", impl.Znode{Path: "/n03", Data: 5})},
		{"seq and own", 2, withSeq(withOwn(create("/n", 0))), withWhere("/n03"), numbered("/", impl.Znode{Path: "/n03", Owner: 2})},
		{"seq of a name that is there", 1, withSeq(create("/a", 5)), withWhere("/a03"), numbered("/", impl.Znode{Path: "/a03", Data: 5})},
		{"the last number", 1, withSeq(create("/a/n", 5)), withWhere("/a/n99"), numbered("/a", impl.Znode{Path: "/a/n99", Data: 5})},
		{"deep", 1, withOwn(create("/abcdefgh/abcdefgh/abcde", 5)), withWhere("/abcdefgh/abcdefgh/abcde"), made(impl.Znode{Path: "/abcdefgh/abcdefgh/abcde", Data: 5, Owner: 1})},
		{"the top", 1, create("/", 5), withCode(impl.ErrForm), nil},
		{"the top, with seq", 1, withSeq(create("/", 5)), withCode(impl.ErrForm), nil},
		{"no parent", 1, create("/zz/n", 5), withCode(impl.ErrNone), nil},
		{"a parent of its own", 1, create("/d/n", 5), withCode(impl.ErrState), nil},
		{"a parent of another one", 1, withSeq(create("/b/n", 5)), withCode(impl.ErrState), nil},
		{"no number left", 1, withSeq(create("/c/n", 5)), withCode(impl.ErrRange), nil},
		{"no number left, but none is asked for", 1, create("/c/n", 5), withWhere("/c/n"), made(impl.Znode{Path: "/c/n", Data: 5})},
		{"a name that gets too long", 1, withSeq(create("/abcdefg", 5)), withCode(impl.ErrText), nil},
		{"a path that gets too long", 1, withSeq(create("/abcdefgh/abcdefgh/abcd", 5)), withCode(impl.ErrMany), nil},
		{"it is there", 1, create("/a", 5), withCode(impl.ErrTaken), nil},
		{"it is there, its own", 1, withOwn(create("/d", 5)), withCode(impl.ErrTaken), nil},
	})
	taken := busyBut(func(s *impl.State) { hang(s, impl.Znode{Path: "/n03"}) })
	if got := impl.ApplyOp(taken, 1, withSeq(create("/n", 5))); !sameState(got, impl.StateResult{Reply: withCode(impl.ErrTaken), State: taken}) {
		t.Errorf("a name with a number that is there: %+v", got)
	}
	full := busyBut(func(s *impl.State) { s.Nodes = wideTree(20) })
	for _, o := range []impl.Op{create("/n", 5), withSeq(create("/n", 5)), withOwn(create("/ka/n", 5))} {
		if got := impl.ApplyOp(full, 1, o); !sameState(got, impl.StateResult{Reply: withCode(impl.ErrMany), State: full}) {
			t.Errorf("%+v with 20 nodes: %+v", o, got)
		}
	}
}

func TestApplyOpDeletesAndSets(t *testing.T) {
	gone := func(path string) func(*impl.State) {
		return func(s *impl.State) { drop(s, path) }
	}
	set := func(path string, data int64) func(*impl.State) {
		return func(s *impl.State) {
			z := nodeIn(s, path)
			z.Data, z.Version = data, z.Version+1
		}
	}
	checkDid(t, []didCase{
		{"of any version", 1, deleteOf("/d", -1), impl.Reply{}, gone("/d")},
		{"of its version", 1, deleteOf("/a/b", 1), impl.Reply{}, gone("/a/b")},
		{"what is nobody's", 1, deleteOf("/c", 999), impl.Reply{}, gone("/c")},
		{"what is another one's", 1, deleteOf("/b", 0), impl.Reply{}, gone("/b")},
		{"the top", 1, deleteOf("/", -1), withCode(impl.ErrForm), nil},
		{"what is not there", 1, deleteOf("/zz", -1), withCode(impl.ErrNone), nil},
		{"of a version above it", 1, deleteOf("/a/b", 2), withCode(impl.ErrVersion), nil},
		{"of a version below it", 1, deleteOf("/a/b", 0), withCode(impl.ErrVersion), nil},
		{"with kids", 1, deleteOf("/a", -1), withCode(impl.ErrState), nil},
		{"with kids, of its version", 1, deleteOf("/a", 5), withCode(impl.ErrState), nil},
		{"set of any version", 1, setOf("/a", 41, -1), withValue(6), set("/a", 41)},
		{"set of its version", 1, setOf("/a", 41, 5), withValue(6), set("/a", 41)},
		{"set at the top", 2, setOf("/", 9999, 2), withValue(3), set("/", 9999)},
		{"set for the first time", 1, setOf("/abcdefgh", 0, 0), withValue(1), set("/abcdefgh", 0)},
		{"set for the last time", 1, setOf("/abcdefgh/abcdefgh", 66, 998), withValue(999), set("/abcdefgh/abcdefgh", 66)},
		{"set of what is another one's", 1, setOf("/b", 0, -1), withValue(1), set("/b", 0)},
		{"set of what is not there", 1, setOf("/zz", 5, -1), withCode(impl.ErrNone), nil},
		{"set of a version above it", 1, setOf("/a", 5, 6), withCode(impl.ErrVersion), nil},
		{"set of a version below it", 1, setOf("/a", 5, 4), withCode(impl.ErrVersion), nil},
		{"set at the last version", 1, setOf("/c", 5, 999), withCode(impl.ErrMany), nil},
		{"set at the last version, of any", 1, setOf("/c", 5, -1), withCode(impl.ErrMany), nil},
	})
}

func TestApplyOpLooks(t *testing.T) {
	checkDid(t, []didCase{
		{"the top's Data", 1, getOf("/"), withValue(1), nil},
		{"a Data of 0", 1, getOf("/d"), impl.Reply{}, nil},
		{"a Data of 9999", 2, getOf("/c"), withValue(9999), nil},
		{"another one's Data", 1, getOf("/b"), withValue(70), nil},
		{"the Data of what is not there", 1, getOf("/zz"), withCode(impl.ErrNone), nil},
		{"the Data of what hangs under another one's", 1, getOf("/b/n"), withCode(impl.ErrNone), nil},
		{"the top's kids", 1, kidsOf("/"), withValue(6), nil},
		{"two kids", 1, kidsOf("/a"), withValue(2), nil},
		{"one kid", 2, kidsOf("/abcdefgh"), withValue(1), nil},
		{"no kids", 1, kidsOf("/c"), impl.Reply{}, nil},
		{"the kids of what is not there", 1, kidsOf("/zz"), withCode(impl.ErrNone), nil},
		{"a check of any", 1, checkOf("/a", -1), withValue(5), nil},
		{"a check of its version", 1, checkOf("/a", 5), withValue(5), nil},
		{"a check of a version above it", 1, checkOf("/a", 6), withCode(impl.ErrVersion), nil},
		{"a check of a version below it", 1, checkOf("/a", 4), withCode(impl.ErrVersion), nil},
		{"a check of a Version of 0", 1, checkOf("/d", 0), impl.Reply{}, nil},
		{"a check of any at a Version of 0", 1, checkOf("/d", -1), impl.Reply{}, nil},
		{"a check of the last version", 2, checkOf("/c", 999), withValue(999), nil},
		{"a check of any at the last version", 2, checkOf("/c", -1), withValue(999), nil},
		{"a check of another one's", 1, checkOf("/e", 7), withValue(7), nil},
		{"a check of what is not there", 1, checkOf("/zz", -1), withCode(impl.ErrNone), nil},
		{"a check of a version of what is not there", 1, checkOf("/zz", 3), withCode(impl.ErrNone), nil},
	})
	full := busyBut(func(s *impl.State) { s.Nodes = wideTree(20) })
	if got := impl.ApplyOp(full, 1, kidsOf("/")); !sameState(got, impl.StateResult{Reply: withValue(19), State: full}) {
		t.Errorf("19 kids: %+v", got)
	}
}

type doneCase struct {
	name  string
	r     impl.Request
	reply impl.Reply
	turn  func(*impl.State)
}

// checkDone asks what came of requests in the busy state, and what it is behind each; each mark stands behind the others.
func checkDone(t *testing.T, cases []doneCase) {
	t.Helper()
	for _, c := range cases {
		want := impl.StateResult{Reply: c.reply, State: busyBut(c.turn)}
		want.State.Marks = append(want.State.Marks, marked(c.r.Client, c.r.Number, c.reply))
		got := impl.ApplyRequest(busy(), c.r)
		if !sameState(got, want) {
			t.Errorf("%s: %+v:\n%+v, want\n%+v", c.name, c.r, got, want)
		}
		checkStateFault(t, c.name, got.State, impl.OK)
		if mark := impl.MarkOf(got.State, c.r.Client, c.r.Number); mark != (impl.ReplyResult{Reply: c.reply}) {
			t.Errorf("%s: its mark is %+v, want %+v", c.name, mark, c.reply)
		}
		again := impl.ApplyRequest(got.State, c.r)
		if !sameState(again, got) {
			t.Errorf("%s: once more: %+v, want %+v", c.name, again, got)
		}
	}
}

// movedTo turns the busy state to what it is at a time, with these sessions, without these nodes.
func movedTo(now int64, sessions []impl.Session, gone ...string) func(*impl.State) {
	return func(s *impl.State) {
		s.Now, s.Sessions = now, sessions
		drop(s, gone...)
	}
}

func TestApplyRequestMovesTheTime(t *testing.T) {
	get, lost := getOf("/a"), withCode(impl.ErrSession)
	value := withValue(40)
	checkDone(t, []doneCase{
		{"a Time of 0", asked(1, 9, 0, get), value, movedTo(100, thereBy(1, 110, 2, 100), "/b")},
		{"a Time just behind Now", asked(1, 9, 99, get), value, movedTo(100, thereBy(1, 110, 2, 100), "/b")},
		{"a Time at Now", asked(1, 9, 100, get), value, movedTo(100, thereBy(1, 110, 2, 100), "/b")},
		{"a Time just ahead of Now", asked(1, 9, 101, get), value, movedTo(101, thereBy(1, 111), "/a/c", "/b")},
		{"the last moment of its own", asked(1, 9, 107, get), value, movedTo(107, thereBy(1, 117), "/a/c", "/b")},
		{"one behind the last moment of its own", asked(1, 9, 108, get), lost, movedTo(108, nil, "/a/b", "/a/c", "/b", "/d")},
		{"the last Time", asked(1, 9, 9000, get), lost, movedTo(9000, nil, "/a/b", "/a/c", "/b", "/d")},
		{"at its last moment, by Now", asked(2, 9, 5, get), value, movedTo(100, thereBy(1, 107, 2, 110), "/b")},
		{"at its last moment, by its Time", asked(2, 9, 100, get), value, movedTo(100, thereBy(1, 107, 2, 110), "/b")},
		{"one behind its last moment", asked(2, 9, 101, get), lost, movedTo(101, thereBy(1, 107), "/a/c", "/b")},
		{"over already, though not at its Time", asked(3, 9, 99, get), lost, movedTo(100, thereBy(1, 107, 2, 100), "/b")},
		{"who has none", asked(4, 9, 107, get), lost, movedTo(107, thereBy(1, 107), "/a/c", "/b")},
		{"who has none, though it owns a node", asked(9, 9, 100, get), lost, movedTo(100, thereBy(1, 107, 2, 100), "/b")},
	})
}

func TestApplyRequestOpensAndCloses(t *testing.T) {
	checkDone(t, []doneCase{
		{"who has none opens", asked(4, 9, 105, opOpen), impl.Reply{}, movedTo(105, thereBy(1, 107, 4, 115), "/a/c", "/b")},
		{"who has one opens, and is touched", asked(1, 9, 100, opOpen), withCode(impl.ErrTaken), movedTo(100, thereBy(1, 110, 2, 100), "/b")},
		{"who is over opens anew, and owns nothing", asked(3, 9, 100, opOpen), impl.Reply{}, movedTo(100, thereBy(1, 107, 2, 100, 3, 110), "/b")},
		{"who is over by its Time opens anew", asked(1, 9, 108, opOpen), impl.Reply{}, movedTo(108, thereBy(1, 118), "/a/b", "/a/c", "/b", "/d")},
		{"at the last Time", asked(1, 9, 9000, opOpen), impl.Reply{}, movedTo(9000, thereBy(1, 9010), "/a/b", "/a/c", "/b", "/d")},
		{"who has one closes", asked(1, 9, 100, opClose), impl.Reply{}, movedTo(100, thereBy(2, 100), "/a/b", "/b", "/d")},
		{"who is at its last moment closes", asked(2, 9, 100, opClose), impl.Reply{}, movedTo(100, thereBy(1, 107), "/a/c", "/b")},
		{"who is over closes", asked(3, 9, 100, opClose), withCode(impl.ErrSession), movedTo(100, thereBy(1, 107, 2, 100), "/b")},
		{"who has none closes", asked(9, 9, 100, opClose), withCode(impl.ErrSession), movedTo(100, thereBy(1, 107, 2, 100), "/b")},
	})
	// Six sessions are no more than five at a time when one of them is over.
	full := busyBut(func(s *impl.State) { s.Sessions = thereBy(1, 107, 2, 100, 3, 100, 5, 100, 6, 100, 7, 101) })
	if got := impl.ApplyRequest(full, asked(8, 9, 100, opOpen)); got.Reply != withCode(impl.ErrMany) || !slices.Equal(got.State.Sessions, full.Sessions) {
		t.Errorf("with 6 there: %+v", got)
	}
	if got := impl.ApplyRequest(full, asked(8, 9, 101, opOpen)); got.Reply != (impl.Reply{}) || !slices.Equal(got.State.Sessions, thereBy(1, 107, 7, 101, 8, 111)) {
		t.Errorf("with 6 of which 4 are over: %+v", got)
	}
}

// moved is what each request of 1 at 100 brings about, whatever its operations do.
func moved(s *impl.State) {
	movedTo(100, thereBy(1, 110, 2, 100), "/b")(s)
}

func movedAnd(turn func(*impl.State)) func(*impl.State) {
	return func(s *impl.State) {
		moved(s)
		turn(s)
	}
}

func TestTouchMayEndASessionSooner(t *testing.T) {
	far := busyBut(func(s *impl.State) { s.Sessions = thereBy(1, 9999, 2, 9999) })
	if got := impl.ApplyRequest(far, asked(1, 9, 100, getOf("/"))); !slices.Equal(got.State.Sessions, thereBy(1, 110, 2, 9999)) {
		t.Errorf("touched: %+v", got)
	}
}

func TestSeveralAreDoneOneBehindTheOther(t *testing.T) {
	at := func(ops ...impl.Op) impl.Request { return asked(1, 9, 100, ops...) }
	checkDone(t, []doneCase{
		{"one", at(setOf("/a", 41, 5)), withValue(6), movedAnd(func(s *impl.State) {
			*nodeIn(s, "/a") = impl.Znode{Path: "/a", Data: 41, Version: 6, Next: 99}
		})},
		{"two, the second of what the first made", at(withOwn(create("/n", 5)), setOf("/n", 6, 0)), withValue(1), movedAnd(func(s *impl.State) {
			hang(s, impl.Znode{Path: "/n", Data: 6, Version: 1, Owner: 1})
		})},
		{"three, one under the other", at(create("/n", 5), create("/n/m", 6), withSeq(create("/n/m", 7))), withWhere("/n/m00"), movedAnd(func(s *impl.State) {
			hang(s, impl.Znode{Path: "/n", Data: 5, Next: 1})
			hang(s, impl.Znode{Path: "/n/m", Data: 6})
			hang(s, impl.Znode{Path: "/n/m00", Data: 7})
		})},
		{"numbers, one behind the other", at(withSeq(create("/n", 5)), withSeq(withOwn(create("/n", 6))), withSeq(create("/n", 7))), withWhere("/n05"), movedAnd(func(s *impl.State) {
			hang(s, impl.Znode{Path: "/n03", Data: 5})
			hang(s, impl.Znode{Path: "/n04", Data: 6, Owner: 1})
			hang(s, impl.Znode{Path: "/n05", Data: 7})
			nodeIn(s, "/").Next = 6
		})},
		{"deleted and made again", at(deleteOf("/d", -1), create("/d", 5), getOf("/d")), withValue(5), movedAnd(func(s *impl.State) {
			*nodeIn(s, "/d") = impl.Znode{Path: "/d", Data: 5}
		})},
		{"both kids, then their parent", at(deleteOf("/a/b", 1), deleteOf("/a/c", 999), deleteOf("/a", 5)), impl.Reply{}, movedAnd(func(s *impl.State) {
			drop(s, "/a", "/a/b", "/a/c")
		})},
		{"set twice, and checked", at(setOf("/a", 1, 5), setOf("/a", 2, 6), checkOf("/a", 7)), withValue(7), movedAnd(func(s *impl.State) {
			*nodeIn(s, "/a") = impl.Znode{Path: "/a", Data: 2, Version: 7, Next: 99}
		})},
		{"the reply of the last one alone", at(create("/n", 5), kidsOf("/")), withValue(6), movedAnd(func(s *impl.State) {
			hang(s, impl.Znode{Path: "/n", Data: 5})
		})},
		{"looks alone", at(getOf("/c"), kidsOf("/a"), checkOf("/d", -1)), impl.Reply{}, moved},
		{"what dropped is no kid any more", at(kidsOf("/")), withValue(5), moved},
		{"what dropped may be made anew", at(create("/b", 5)), withWhere("/b"), movedAnd(func(s *impl.State) {
			hang(s, impl.Znode{Path: "/b", Data: 5})
		})},
	})
}

func TestOneCodeUndoesAll(t *testing.T) {
	at := func(ops ...impl.Op) impl.Request { return asked(1, 9, 100, ops...) }
	made, set, gone := withSeq(withOwn(create("/n", 5))), setOf("/a", 41, 5), deleteOf("/d", -1)
	checkDone(t, []doneCase{
		{"the one", at(getOf("/zz")), codeAt(impl.ErrNone, 0), moved},
		{"the one that dropped", at(getOf("/b")), codeAt(impl.ErrNone, 0), moved},
		{"the first of two", at(getOf("/zz"), set), codeAt(impl.ErrNone, 0), moved},
		{"the second of two", at(set, getOf("/zz")), codeAt(impl.ErrNone, 1), moved},
		{"both of two", at(checkOf("/a", 4), getOf("/zz")), codeAt(impl.ErrVersion, 0), moved},
		{"the first of three", at(create("/a", 5), made, set), codeAt(impl.ErrTaken, 0), moved},
		{"the second of three", at(made, create("/a", 5), set), codeAt(impl.ErrTaken, 1), moved},
		{"the last of three", at(made, set, create("/a", 5)), codeAt(impl.ErrTaken, 2), moved},
		{"the last two of three", at(gone, deleteOf("/", -1), setOf("/zz", 5, -1)), codeAt(impl.ErrForm, 1), moved},
		{"all three", at(deleteOf("/a", -1), getOf("/zz"), create("/", 5)), codeAt(impl.ErrState, 0), moved},
		{"what the one ahead has done", at(gone, gone), codeAt(impl.ErrNone, 1), moved},
		{"the version that the one ahead has set", at(set, set), codeAt(impl.ErrVersion, 1), moved},
		{"a kid of what the one ahead made its own", at(withOwn(create("/n", 5)), create("/n/m", 5)), codeAt(impl.ErrState, 1), moved},
		{"a number too many", at(withSeq(create("/a/n", 5)), withSeq(create("/a/m", 5))), codeAt(impl.ErrRange, 1), moved},
		{"a name too long", at(gone, set, withSeq(create("/abcdefgh/abcdefg", 5))), codeAt(impl.ErrText, 2), moved},
		{"a path too long", at(gone, withSeq(create("/abcdefgh/abcdefgh/abcd", 5))), codeAt(impl.ErrMany, 1), moved},
	})
	for _, o := range oneOfEach[2:] {
		checkDone(t, []doneCase{
			{"no session, of one", asked(4, 9, 100, o), codeAt(impl.ErrSession, 0), movedTo(100, thereBy(1, 107, 2, 100), "/b")},
			{"no session, of three", asked(4, 9, 100, o, o, o), codeAt(impl.ErrSession, 0), movedTo(100, thereBy(1, 107, 2, 100), "/b")},
		})
	}
}

// crowded is busy with as many marks as is told, of which these stand last.
func crowded(many int, last ...impl.Mark) impl.State {
	return withMarks(append(manyMarks(many-len(last)), last...)...)
}

func TestMarkedRequestsAreToldAgain(t *testing.T) {
	for _, told := range []impl.Reply{{}, withValue(-1), codeAt(impl.ErrNone, 2), {Code: impl.ErrSign, Value: 9999, Path: strings.Repeat("\xff", 24)}, withWhere("/n")} {
		for _, many := range []int{1, 2, 39, 40} {
			s := crowded(many, marked(7, 99, told))
			for _, r := range []impl.Request{
				asked(7, 99, 100, opOpen),
				asked(7, 99, 100, opClose),
				asked(7, 99, 0, create("/n", 5)),
				asked(7, 99, 9000, getOf("/zz"), deleteOf("/d", -1)),
			} {
				if got, want := impl.ApplyRequest(s, r), (impl.StateResult{Reply: told, State: s}); !sameState(got, want) {
					t.Errorf("%+v with %d marks:\n%+v, want\n%+v", r, many, got, want)
				}
			}
		}
	}
	// The busy state has marks of 1 and 1, 1 and 2, 2 and 1: each tells its own.
	for _, m := range busy().Marks {
		for _, time := range []int64{0, 100, 101, 9000} {
			r := asked(m.Client, m.Number, time, setOf("/a", 41, 5), getOf("/a"))
			if got := impl.ApplyRequest(busy(), r); !sameState(got, impl.StateResult{Reply: m.Reply, State: busy()}) {
				t.Errorf("%+v: %+v, want the reply %+v and nothing else", r, got, m.Reply)
			}
		}
	}
}

func TestMarksAreCounted(t *testing.T) {
	for _, r := range []impl.Request{asked(1, 99, 100, setOf("/a", 41, 5)), asked(1, 99, 9000, getOf("/a")), asked(9, 99, 100, getOf("/a")), asked(8, 98, 0, opOpen)} {
		for _, many := range []int{0, 1, 38, 39} {
			got := impl.ApplyRequest(crowded(many), r)
			want := append(manyMarks(many), marked(r.Client, r.Number, got.Reply))
			if got.Code != impl.OK || !slices.Equal(got.State.Marks, want) {
				t.Errorf("%+v with %d marks: %+v", r, many, got)
			}
		}
		if got := impl.ApplyRequest(crowded(40), r); !sameState(got, noState(impl.ErrMany)) {
			t.Errorf("%+v with 40 marks: %+v, want ErrMany alone", r, got)
		}
	}
}

// oneByOne are requests of client 1, as many as is told: it opens its session, and sets the top over and over.
func oneByOne(many int) []impl.Request {
	var list []impl.Request
	for i := range int64(many) {
		o := setOf("/", i, -1)
		if i == 0 {
			o = opOpen
		}
		list = append(list, asked(1, i+1, i, o))
	}
	return list
}

func TestRunRequests(t *testing.T) {
	for _, list := range [][]impl.Request{nil, {}} {
		if got := impl.RunRequests(list); !sameState(got, impl.NewState(0)) {
			t.Errorf("none: %+v", got)
		}
	}
	opened := impl.State{Nodes: treeOf(), Sessions: thereBy(1, 10), Marks: []impl.Mark{marked(1, 1, impl.Reply{})}}
	if got := impl.RunRequests(oneByOne(1)); !sameState(got, impl.StateResult{State: opened}) {
		t.Errorf("one: %+v", got)
	}
	all := impl.State{Nodes: []impl.Znode{{Path: "/", Data: 39, Version: 39}}, Sessions: thereBy(1, 49), Now: 39, Marks: []impl.Mark{marked(1, 1, impl.Reply{})}}
	for i := range int64(39) {
		all.Marks = append(all.Marks, marked(1, i+2, withValue(i+1)))
	}
	if got := impl.RunRequests(oneByOne(40)); !sameState(got, impl.StateResult{Reply: withValue(39), State: all}) {
		t.Errorf("40: %+v", got)
	}
	if got := impl.RunRequests(oneByOne(41)); !sameState(got, noState(impl.ErrMany)) {
		t.Errorf("41: %+v", got)
	}
	for _, many := range []int{2, 39, 40} {
		if got := impl.RunRequests(slices.Repeat(oneByOne(1), many)); !sameState(got, impl.StateResult{State: opened}) {
			t.Errorf("the same %d times: %+v", many, got)
		}
	}
	if got := impl.RunRequests(slices.Repeat(oneByOne(1), 41)); !sameState(got, noState(impl.ErrMany)) {
		t.Errorf("the same 41 times: %+v", got)
	}
	lost := impl.RunRequests([]impl.Request{asked(2, 5, 7, getOf("/")), asked(1, 1, 3, opOpen)})
	want := impl.State{Nodes: treeOf(), Sessions: thereBy(1, 17), Now: 7, Marks: []impl.Mark{marked(2, 5, withCode(impl.ErrSession)), marked(1, 1, impl.Reply{})}}
	if !sameState(lost, impl.StateResult{State: want}) {
		t.Errorf("a time that falls: %+v", lost)
	}
}

func TestRunRequestsTellsTheFirstCode(t *testing.T) {
	wrongs := []struct {
		r    impl.Request
		code int64
	}{{asked(0, 1, 1, opOpen), impl.ErrRange}, {asked(1, 50, 1), impl.ErrMany}, {asked(1, 51, 1, opOpen, opClose), impl.ErrForm}, {asked(1, 52, 1, getOf("x")), impl.ErrText}}
	for i, wrong := range wrongs {
		for _, many := range []int{1, 2, 5, 40} {
			for _, at := range []int{0, many / 2, many - 1} {
				list := oneByOne(many)
				list[at] = wrong.r
				if got := impl.RunRequests(list); !sameState(got, noState(wrong.code)) {
					t.Errorf("%d of %d is %+v: %+v, want the code %d alone", at, many, wrong.r, got, wrong.code)
				}
				if at+1 < many {
					list[many-1] = wrongs[(i+1)%len(wrongs)].r
					if got := impl.RunRequests(list); !sameState(got, noState(wrong.code)) {
						t.Errorf("%d of %d is %+v, the last one has another fault: %+v, want the code %d alone", at, many, wrong.r, got, wrong.code)
					}
				}
			}
		}
		list := oneByOne(41)
		list[i] = wrong.r
		if got := impl.RunRequests(list); !sameState(got, noState(impl.ErrMany)) {
			t.Errorf("41, and a fault: %+v, want ErrMany alone", got)
		}
	}
}

func TestMarkOf(t *testing.T) {
	s := crowded(40, marked(7, 99, impl.Reply{Code: 10, Value: -1, Path: "/a/"}), marked(8, 99, impl.Reply{}))
	told := map[markKey]impl.Reply{}
	for _, m := range s.Marks {
		told[markKey{m.Client, m.Number}] = m.Reply
	}
	none := 0
	for _, client := range append(edges, 3, 4, 5, 6, 7) {
		for _, number := range append(edges, 3, 4, 5, 6, 7) {
			want := impl.ReplyResult{Code: impl.ErrNone}
			if reply, there := told[markKey{client, number}]; there {
				want = impl.ReplyResult{Reply: reply}
			} else {
				none++
			}
			if got := impl.MarkOf(s, client, number); got != want {
				t.Errorf("MarkOf %d and %d: %+v, want %+v", client, number, got, want)
			}
		}
	}
	for key, reply := range told {
		if got := impl.MarkOf(s, key.client, key.number); got != (impl.ReplyResult{Reply: reply}) {
			t.Errorf("MarkOf %+v: %+v, want %+v", key, got, reply)
		}
	}
	if none < 500 || len(told) != 40 {
		t.Errorf("%d were not there, %d were", none, len(told))
	}
	if got := impl.MarkOf(withMarks(), 1, 1); got != (impl.ReplyResult{Code: impl.ErrNone}) {
		t.Errorf("MarkOf no marks: %+v", got)
	}
}

// ownState lays a state where nothing else lies: its texts are new, and room is left behind its lists for whoever writes there.
func ownState(s impl.State) impl.State {
	s.Nodes, s.Sessions, s.Marks = ownNodes(s.Nodes), roomy(s.Sessions), roomy(s.Marks)
	for i := range s.Marks {
		s.Marks[i].Reply.Path = strings.Clone(s.Marks[i].Reply.Path)
	}
	return s
}

// statesBeside differ from a state in just one thing each.
func statesBeside(s impl.State) map[string]impl.State {
	all := map[string]impl.State{}
	turn := func(name string, do func(*impl.State)) {
		other := ownState(s)
		do(&other)
		all[name] = other
	}
	turn("Now", func(o *impl.State) { o.Now++ })
	turn("one node more", func(o *impl.State) { o.Nodes = append(o.Nodes, impl.Znode{}) })
	turn("one session more", func(o *impl.State) { o.Sessions = append(o.Sessions, impl.Session{}) })
	turn("one mark more", func(o *impl.State) { o.Marks = append(o.Marks, impl.Mark{}) })
	for place, last := range map[string]bool{"first ": false, "last ": true} {
		at := func(many int) int {
			if last {
				return many - 1
			}
			return 0
		}
		if n := len(s.Nodes); n > 0 {
			turn(place+"node missing", func(o *impl.State) { o.Nodes = slices.Delete(o.Nodes, at(n), at(n)+1) })
			turn(place+"node's Path", func(o *impl.State) { o.Nodes[at(n)].Path += "z" })
			turn(place+"node's Data", func(o *impl.State) { o.Nodes[at(n)].Data++ })
			turn(place+"node's Version", func(o *impl.State) { o.Nodes[at(n)].Version++ })
			turn(place+"node's Owner", func(o *impl.State) { o.Nodes[at(n)].Owner++ })
			turn(place+"node's Next", func(o *impl.State) { o.Nodes[at(n)].Next++ })
		}
		if n := len(s.Sessions); n > 0 {
			turn(place+"session missing", func(o *impl.State) { o.Sessions = slices.Delete(o.Sessions, at(n), at(n)+1) })
			turn(place+"session's Id", func(o *impl.State) { o.Sessions[at(n)].Id++ })
			turn(place+"session's Until", func(o *impl.State) { o.Sessions[at(n)].Until-- })
		}
		if n := len(s.Marks); n > 0 {
			turn(place+"mark missing", func(o *impl.State) { o.Marks = slices.Delete(o.Marks, at(n), at(n)+1) })
			turn(place+"mark's Client", func(o *impl.State) { o.Marks[at(n)].Client++ })
			turn(place+"mark's Number", func(o *impl.State) { o.Marks[at(n)].Number++ })
			turn(place+"mark's Code", func(o *impl.State) { o.Marks[at(n)].Reply.Code++ })
			turn(place+"mark's Value", func(o *impl.State) { o.Marks[at(n)].Reply.Value++ })
			turn(place+"mark's Path", func(o *impl.State) { o.Marks[at(n)].Reply.Path += "z" })
		}
	}
	return all
}

func TestSameStates(t *testing.T) {
	states := map[string]impl.State{"nothing": {}, "new": impl.NewState(5).State, "busy": busy(), "40 marks": crowded(40), "the top alone": {Nodes: treeOf()}}
	for _, c := range faultyStates() {
		states[c.name] = c.s
	}
	for name, s := range states {
		other := ownState(s)
		if !impl.SameStates(s, s) || !impl.SameStates(s, other) || !impl.SameStates(other, s) {
			t.Errorf("%s: %+v is not the same as itself", name, s)
		}
		for thing, turned := range statesBeside(s) {
			if impl.SameStates(s, turned) || impl.SameStates(turned, s) {
				t.Errorf("%s: it is the same as one with another thing: %s", name, thing)
			}
		}
	}
	turned := busy()
	slices.Reverse(turned.Marks)
	if impl.SameStates(busy(), turned) || impl.SameStates(turned, busy()) {
		t.Error("marks in another order are the same")
	}
	empty := impl.State{Nodes: []impl.Znode{}, Sessions: []impl.Session{}, Marks: []impl.Mark{}}
	if !impl.SameStates(impl.State{}, empty) || !impl.SameStates(empty, impl.State{}) {
		t.Error("nil and empty lists are not the same")
	}
	if one, other := (impl.State{Nodes: treeOf(), Sessions: []impl.Session{}}), (impl.State{Nodes: treeOf(), Marks: []impl.Mark{}}); !impl.SameStates(one, other) || !impl.SameStates(other, one) {
		t.Error("nil and empty lists beside a tree are not the same")
	}
}

func TestRootIn(t *testing.T) {
	for name, s := range map[string]impl.State{"new": impl.NewState(5).State, "busy": busy(), "40 marks": crowded(40), "20 nodes": {Nodes: wideTree(20)}} {
		if got, want := impl.RootIn(s), impl.RootOf(s.Nodes); got != want || got != modelRoot(s.Nodes) {
			t.Errorf("%s: RootIn %v, want %v", name, got, want)
		}
	}
	// Beside the tree nothing of a state tells in its root.
	bare := impl.State{Nodes: busy().Nodes}
	if impl.RootIn(bare) != impl.RootIn(busy()) {
		t.Errorf("RootIn %v, and of the tree alone %v", impl.RootIn(busy()), impl.RootIn(bare))
	}
}

func TestStatesAreWhatTheModelTells(t *testing.T) {
	t.Parallel()
	r := rand.New(rand.NewPCG(25, 1))
	faults, ops, dids, dones := map[int64]int{}, map[int64]int{}, map[int64]int{}, map[int64]int{}
	for range 8000 {
		c := drawnStateCall(r)
		got, want := programStates(c), modelStates(c)
		if !sameStateAnswers(got, want) {
			t.Fatalf("of %+v:\n%+v, want\n%+v", c, got, want)
		}
		faults[got.fault]++
		ops[got.did.Code]++
		if got.did.Code == impl.OK {
			dids[got.did.Reply.Code]++
		}
		if got.done.Code == impl.OK {
			dones[got.done.Reply.Code]++
		}
	}
	for _, code := range []int64{impl.OK, impl.ErrForm, impl.ErrMany, impl.ErrRange, impl.ErrNone, impl.ErrText, impl.ErrTaken} {
		if faults[code] < 10 || ops[code] < 10 {
			t.Errorf("the code %d was told only %d times of states, %d times with operations", code, faults[code], ops[code])
		}
	}
	for _, code := range []int64{impl.OK, impl.ErrForm, impl.ErrMany, impl.ErrRange, impl.ErrNone, impl.ErrText, impl.ErrTaken, impl.ErrVersion, impl.ErrState, impl.ErrSession} {
		if dids[code] < 10 || dones[code] < 10 {
			t.Errorf("the code %d was replied only %d times to operations, %d times to requests", code, dids[code], dones[code])
		}
	}
}

// Promise 7: whatever is asked a state has no fault, and what has a code changes nothing.
func TestStatesStayWithoutFault(t *testing.T) {
	r := rand.New(rand.NewPCG(26, 26))
	did, refused := 0, 0
	for range 4000 {
		s := drawnState(r)
		for range 6 {
			client, o := drawnClient(r, s), aimed(r, s.Nodes, drawnOp(r))
			got := impl.ApplyOp(s, client, o)
			if got.Code != impl.OK || impl.StateFault(got.State) != impl.OK {
				t.Fatalf("%+v of %d in %+v: %+v, with the fault %d", o, client, s, got, impl.StateFault(got.State))
			}
			if got.Reply.Code != impl.OK {
				refused++
				if got.Reply != withCode(got.Reply.Code) || !modelSameStates(got.State, s) {
					t.Fatalf("%+v of %d in %+v has a code, but it turned: %+v", o, client, s, got)
				}
			} else {
				did++
			}
			s = got.State
		}
	}
	if did < 3000 || refused < 3000 {
		t.Errorf("only %d were done, %d had a code", did, refused)
	}
}

// Promise 7: what has a code changes nothing of the tree but for who is over; all else that a request brings about stays.
func TestRequestsWithACodeLeaveTheTree(t *testing.T) {
	r := rand.New(rand.NewPCG(27, 27))
	refused, done := 0, 0
	for range 6000 {
		s := drawnState(r)
		s.Marks = drawnMarks(r, r.IntN(30))
		ask := drawnAsked(r, s)
		ask.Number = 20
		got := impl.ApplyRequest(s, ask)
		if got.Code != impl.OK || impl.StateFault(got.State) != impl.OK || got.State.Now != max(s.Now, ask.Time) {
			t.Fatalf("%+v in %+v: %+v", ask, s, got)
		}
		if got.Reply.Code == impl.OK {
			done++
			continue
		}
		refused++
		split := impl.SplitSessions(s.Sessions, got.State.Now)
		if left := impl.DropOwned(s.Nodes, split.Over).Nodes; !slices.Equal(got.State.Nodes, left) {
			t.Fatalf("%+v in %+v: %+v, and it has a code", ask, s, got)
		}
		for i := range split.Live {
			if split.Live[i].Id == ask.Client {
				split.Live[i].Until = got.State.Now + 10
			}
		}
		if !slices.Equal(got.State.Sessions, split.Live) || got.Reply.Path != "" || got.Reply.Value < 0 || got.Reply.Value >= int64(len(ask.Ops)) {
			t.Fatalf("%+v in %+v: %+v", ask, s, got)
		}
	}
	if done < 800 || refused < 800 {
		t.Errorf("only %d were done, %d had a code", done, refused)
	}
}

// Promise 7: a request that is done twice is done once, and told the same, whatever was done between.
func TestTwiceIsOnce(t *testing.T) {
	for seed := range uint64(60) {
		r := rand.New(rand.NewPCG(seed, 28))
		story := drawnStory(r, 30)
		s := impl.NewState(0).State
		told := map[markKey]impl.Reply{}
		for i, ask := range story {
			first := impl.ApplyRequest(s, ask)
			if old, done := told[markKey{ask.Client, ask.Number}]; done && (old != first.Reply || !modelSameStates(s, first.State)) {
				t.Fatalf("%+v, done before with %+v, in %+v: %+v", ask, old, s, first)
			}
			told[markKey{ask.Client, ask.Number}] = first.Reply
			if again := impl.ApplyRequest(first.State, ask); !sameState(again, first) {
				t.Fatalf("%+v in %+v: %+v, and once more %+v", ask, s, first, again)
			}
			s = first.State
			for _, old := range story[:i] {
				if again := impl.ApplyRequest(s, old); again.Reply != told[markKey{old.Client, old.Number}] || !modelSameStates(again.State, s) {
					t.Fatalf("%+v, done before, in %+v: %+v", old, s, again)
				}
			}
		}
	}
}

// Promise 7: of several operations all are done, one behind the other, or none.
func TestAllOrNone(t *testing.T) {
	r := rand.New(rand.NewPCG(29, 29))
	all, none := 0, 0
	for range 12000 {
		s := drawnState(r)
		s.Marks = nil
		ask := drawnAsked(r, s)
		if len(ask.Ops) < 2 || !impl.LiveSession(s.Sessions, ask.Client, max(s.Now, ask.Time)) {
			continue
		}
		got := impl.ApplyRequest(s, ask)
		// A look alone leaves what the time of the request brings about, and nothing else.
		looked := impl.ApplyRequest(s, asked(ask.Client, ask.Number, ask.Time, getOf("/"))).State
		one, last, want := looked, impl.Reply{}, looked
		for place, o := range ask.Ops {
			did := impl.ApplyOp(one, ask.Client, o)
			one, last = did.State, did.Reply
			if last.Code != impl.OK {
				last.Value = int64(place)
				break
			}
		}
		if last.Code == impl.OK {
			all++
			want = one
		} else {
			none++
		}
		want.Marks = []impl.Mark{marked(ask.Client, ask.Number, last)}
		if !sameState(got, impl.StateResult{Reply: last, State: want}) {
			t.Fatalf("%+v in %+v:\n%+v, and one by one\n%+v, %+v", ask, s, got, last, want)
		}
	}
	if all < 500 || none < 500 {
		t.Errorf("only %d were done, %d were not", all, none)
	}
}

// Promise 7: the state of requests is that of the first ones, with the others done.
func TestRunIsTheFirstOnesAndTheOthers(t *testing.T) {
	grew := 0
	for seed := range uint64(40) {
		r := rand.New(rand.NewPCG(seed, 30))
		story := drawnStory(r, drawn(r, []int{1, 2, 7, 25, 40}))
		whole := impl.RunRequests(story)
		if whole.Code != impl.OK || impl.StateFault(whole.State) != impl.OK || !sameState(whole, modelRun(story)) {
			t.Fatalf("of %+v: %+v", story, whole)
		}
		for cut := 0; cut <= len(story); cut += 1 + r.IntN(4) {
			run := impl.RunRequests(story[:cut])
			for _, ask := range story[cut:] {
				run = impl.ApplyRequest(run.State, ask)
			}
			if !sameState(run, whole) {
				t.Fatalf("of %+v, cut at %d: %+v, want %+v", story, cut, run, whole)
			}
		}
		grew = max(grew, len(whole.State.Nodes))
	}
	if grew < 6 {
		t.Errorf("no tree grew beyond %d nodes", grew)
	}
}

// Promise 7: of all requests that were done there is a mark, and it stays.
func TestMarksStay(t *testing.T) {
	for seed := range uint64(60) {
		r := rand.New(rand.NewPCG(seed, 31))
		s := impl.NewState(0).State
		var marks []impl.Mark
		for _, ask := range drawnStory(r, 40) {
			old := impl.MarkOf(s, ask.Client, ask.Number)
			got := impl.ApplyRequest(s, ask)
			if old.Code == impl.ErrNone {
				marks = append(marks, marked(ask.Client, ask.Number, got.Reply))
			}
			if !slices.Equal(got.State.Marks, marks) {
				t.Fatalf("%+v in %+v: %+v, want the marks %+v", ask, s, got, marks)
			}
			for _, m := range marks {
				if told := impl.MarkOf(got.State, m.Client, m.Number); told != (impl.ReplyResult{Reply: m.Reply}) {
					t.Fatalf("%+v in %+v: the mark %+v is told as %+v", ask, s, m, told)
				}
			}
			// An operation alone is no request: it leaves no mark, and takes none away.
			alone := impl.ApplyOp(got.State, ask.Client, ask.Ops[0]).State
			if !slices.Equal(alone.Marks, marks) || alone.Now != got.State.Now {
				t.Fatalf("%+v in %+v: %+v", ask.Ops[0], got.State, alone)
			}
			s = got.State
		}
	}
}

// Promise 1: every argument has an answer, however long a list is or how odd its numbers are.
func TestEveryStateIsAnswered(t *testing.T) {
	far := []int64{math.MinInt64, -1, 0, 1, 3, 9, 10, 9000, 9001, math.MaxInt64}
	states := []impl.State{{}, busy(), impl.NewState(9000).State, {Nodes: make([]impl.Znode, 1<<12), Sessions: make([]impl.Session, 1<<12), Marks: make([]impl.Mark, 1<<12)}, {Nodes: treeOf(), Sessions: make([]impl.Session, 1<<12)}, {Nodes: treeOf(), Marks: make([]impl.Mark, 1<<12)}}
	for _, n := range far {
		s := busyBut(func(s *impl.State) { s.Marks[1] = marked(n, 3, withValue(n)) })
		states = append(states, s, withNow(n), withMarks(marked(3, n, withCode(n)), marked(3, 3, withWhere(strings.Repeat("\xff", 20)))))
	}
	for i, s := range states {
		for _, n := range far {
			for _, m := range far {
				o := impl.Op{Kind: m, Path: "/a", Data: n, Version: m}
				lists := [][]impl.Request{nil, {}, {asked(n, m, n, o)}, {asked(1, 1, m, opOpen), asked(1, 2, n, getOf("/"))}, slices.Repeat([]impl.Request{asked(n, m, n, o, o)}, 40), make([]impl.Request, 1<<10)}
				c := stateCall{state: s, other: states[(i+1)%len(states)], now: n, client: m, number: n, op: o, asked: asked(m, n, n, getOf("/a"), o), list: lists[(i+int(n&7)+int(m&7))%len(lists)]}
				if got, want := programStates(c), modelStates(c); !sameStateAnswers(got, want) {
					t.Fatalf("of state %d with %d and %d: %+v, want %+v", i, n, m, got, want)
				}
			}
		}
	}
}

// Promise 1: an answer hangs on the arguments alone, so it is the same in whatever order it is asked.
func TestStateAnswersHangOnArgumentsAlone(t *testing.T) {
	r := rand.New(rand.NewPCG(32, 32))
	checkAgain(t, drawnMany(r, 300, drawnStateCall), programStates, sameStateAnswers)
}

func ownRequest(r impl.Request) impl.Request {
	r.Ops = ownOps(r.Ops)
	return r
}

// drawnOwnStateCall draws a call of which nothing lies where anything else does.
func drawnOwnStateCall(r *rand.Rand) stateCall {
	c := drawnStateCall(r)
	c.state, c.other = ownState(c.state), ownState(c.other)
	c.op.Path, c.asked, c.list = strings.Clone(c.op.Path), ownRequest(c.asked), ownRequests(c.list)
	return c
}

func textsOfOps(ops []impl.Op) []string {
	var texts []string
	for _, o := range ops {
		texts = append(texts, o.Path)
	}
	return texts
}

func textsOfMarks(marks []impl.Mark) []string {
	var texts []string
	for _, m := range marks {
		texts = append(texts, m.Reply.Path)
	}
	return texts
}

func anyShared(ones []string, others []string) bool {
	for _, one := range ones {
		for _, other := range others {
			if sharesMemory(one, other) {
				return true
			}
		}
	}
	return false
}

// listsShare tells whether any list of the one state lies where one of the other does.
func listsShare(a impl.State, b impl.State) bool {
	return sharesRoom(a.Nodes, b.Nodes) || sharesRoom(a.Sessions, b.Sessions) || sharesRoom(a.Marks, b.Marks)
}

// sharesWithin tells whether two lists of one answer, or their texts, lie in one place.
func sharesWithin(a impl.StateResult) bool {
	nodes, marks, reply := textsIn(a.State.Nodes), textsOfMarks(a.State.Marks), []string{a.Reply.Path}
	return sharesRoom(a.State.Nodes, a.State.Sessions) || sharesRoom(a.State.Nodes, a.State.Marks) || sharesRoom(a.State.Sessions, a.State.Marks) || anyShared(nodes, marks) || anyShared(nodes, reply) || anyShared(marks, reply)
}

// Promise 1: what is answered shares no memory with what is handed in, nor two lists of one answer with each other.
func TestStateAnswersAreNewMemory(t *testing.T) {
	r := rand.New(rand.NewPCG(33, 33))
	for range 1500 {
		c := drawnOwnStateCall(r)
		a := programStates(c)
		handed := slices.Concat(textsIn(c.state.Nodes), textsOfMarks(c.state.Marks), textsOfOps(c.asked.Ops), []string{c.op.Path})
		for _, ask := range c.list {
			handed = append(handed, textsOfOps(ask.Ops)...)
		}
		if anyShared(handed, []string{a.mark.Reply.Path}) {
			t.Fatalf("of %+v: the reply %+v shares its path", c, a.mark)
		}
		for _, got := range a.states() {
			if listsShare(got.State, c.state) || sharesWithin(got) {
				t.Fatalf("of %+v: %+v shares its lists", c, got)
			}
			if anyShared(handed, slices.Concat(textsIn(got.State.Nodes), textsOfMarks(got.State.Marks), []string{got.Reply.Path})) {
				t.Fatalf("of %+v: %+v shares its texts", c, got)
			}
		}
		again := programStates(c)
		for _, got := range a.states() {
			clear(got.State.Nodes[:cap(got.State.Nodes)])
			clear(got.State.Sessions[:cap(got.State.Sessions)])
			clear(got.State.Marks[:cap(got.State.Marks)])
		}
		if want := modelStates(c); !sameStateAnswers(again, want) {
			t.Fatalf("of %+v: two answers share their lists", c)
		}
	}
}

// wholeOf takes in what lies behind the lists of a state, too.
func wholeOf(s impl.State) impl.State {
	s.Nodes, s.Sessions, s.Marks = s.Nodes[:cap(s.Nodes)], s.Sessions[:cap(s.Sessions)], s.Marks[:cap(s.Marks)]
	return s
}

// wholeRequests takes in what lies behind the requests, and behind the Ops of each.
func wholeRequests(list []impl.Request) []impl.Request {
	whole := slices.Clone(list[:cap(list)])
	for i, ask := range whole {
		whole[i].Ops = ask.Ops[:cap(ask.Ops)]
	}
	return whole
}

func ownRequests(list []impl.Request) []impl.Request {
	own := roomy(list)
	for i := range own {
		own[i] = ownRequest(own[i])
	}
	return own
}

// Promise 1: no call changes the states, the operation or the requests that are handed in, nor what lies behind them.
func TestStateArgumentsStayAsTheyAre(t *testing.T) {
	r := rand.New(rand.NewPCG(34, 34))
	for range 1500 {
		c := drawnOwnStateCall(r)
		state, other, oldPath := ownState(wholeOf(c.state)), ownState(wholeOf(c.other)), strings.Clone(c.op.Path)
		list, ask := ownRequests(wholeRequests(c.list)), ownRequests(wholeRequests([]impl.Request{c.asked}))
		programStates(c)
		impl.SameStates(c.other, c.state)
		if !modelSameStates(wholeOf(c.state), state) || !modelSameStates(wholeOf(c.other), other) || c.op.Path != oldPath {
			t.Fatalf("a state or the operation changed: %+v", c)
		}
		if !slices.EqualFunc(wholeRequests(c.list), list, modelSame) || !slices.EqualFunc(wholeRequests([]impl.Request{c.asked}), ask, modelSame) {
			t.Fatalf("a request changed: %+v", c)
		}
	}
}
