package tests

import (
	"math"
	"math/rand/v2"
	"slices"
	"testing"

	"loop.example/g00369/impl"
)

// thereUntil are sessions with the Ids 1, 2 and so on, each Until the time that is told.
func thereUntil(untils ...int64) []impl.Session {
	var list []impl.Session
	for i, until := range untils {
		list = append(list, impl.Session{Id: int64(i) + 1, Until: until})
	}
	return list
}

// thereAs are sessions of these Ids, all Until one time.
func thereAs(until int64, ids ...int64) []impl.Session {
	var list []impl.Session
	for _, id := range ids {
		list = append(list, impl.Session{Id: id, Until: until})
	}
	return list
}

// thereBy are sessions told by Id and Until, one behind the other.
func thereBy(numbers ...int64) []impl.Session {
	var list []impl.Session
	for two := range slices.Chunk(numbers, 2) {
		list = append(list, impl.Session{Id: two[0], Until: two[1]})
	}
	return list
}

func sessionsOf(list []impl.Session) impl.SessionsResult {
	return impl.SessionsResult{Sessions: list}
}

func noSessions(code int64) impl.SessionsResult {
	return impl.SessionsResult{Code: code}
}

func TestSessionBounds(t *testing.T) {
	if impl.MaxSessions != 6 || impl.SessionTime != 10 {
		t.Errorf("MaxSessions %d, SessionTime %d, want 6 and 10", impl.MaxSessions, impl.SessionTime)
	}
}

type sessionsCase struct {
	name string
	list []impl.Session
	want int64
}

var faultySessions = []sessionsCase{
	{"7", thereUntil(1, 2, 3, 4, 5, 6, 7), impl.ErrMany},
	{"7 that are none", make([]impl.Session, 7), impl.ErrMany},
	{"7 of one Id", thereAs(5, 3, 3, 3, 3, 3, 3, 3), impl.ErrMany},
	{"6 that are none", make([]impl.Session, 6), impl.ErrRange},
	{"an Id of 0", thereAs(5, 0), impl.ErrRange},
	{"an Id of 10", thereAs(5, 10), impl.ErrRange},
	{"an Id of -1", thereAs(5, -1), impl.ErrRange},
	{"the least Id", thereAs(5, math.MinInt64), impl.ErrRange},
	{"the greatest Id", thereAs(5, math.MaxInt64), impl.ErrRange},
	{"a last Id of 10", thereAs(5, 1, 9, 10), impl.ErrRange},
	{"an Until of -1", thereUntil(-1), impl.ErrRange},
	{"an Until of 10000", thereUntil(10000), impl.ErrRange},
	{"the least Until", thereUntil(math.MinInt64), impl.ErrRange},
	{"the greatest Until", thereUntil(math.MaxInt64), impl.ErrRange},
	{"a last Until of 10000", thereUntil(1, 2, 10000), impl.ErrRange},
	{"an Id that stands still", thereAs(5, 4, 4), impl.ErrForm},
	{"an Id that stands still at last", thereAs(5, 1, 2, 9, 9), impl.ErrForm},
	{"Ids that fall", thereAs(5, 4, 3), impl.ErrForm},
	{"Ids that fall below the first", thereAs(5, 2, 4, 1), impl.ErrForm},
	{"Ids that fall, but not below the first", thereAs(5, 2, 4, 3), impl.ErrForm},
	{"6 that fall", thereAs(5, 9, 8, 7, 6, 5, 4), impl.ErrForm},
	{"in one: a wrong Until ahead of a fall", thereBy(4, 5, 3, -1), impl.ErrRange},
	{"in one: a wrong Id ahead of a fall", thereBy(4, 5, 0, 5), impl.ErrRange},
	{"in several: a fall ahead of a wrong Until", thereBy(4, 5, 3, 5, 5, 10000), impl.ErrForm},
	{"in several: a fall ahead of a wrong Id", thereBy(4, 5, 4, 5, 10, 5), impl.ErrForm},
	{"in several: a wrong Until ahead of a fall", thereBy(4, 10000, 3, 5), impl.ErrRange},
	{"in several: a wrong Id ahead of a fall", thereBy(10, 5, 3, 5, 2, 5), impl.ErrRange},
}

func TestSessionsFault(t *testing.T) {
	for _, c := range append([]sessionsCase{
		{"nil", nil, impl.OK},
		{"none", []impl.Session{}, impl.OK},
		{"one", thereUntil(5), impl.OK},
		{"6", thereUntil(1, 2, 3, 4, 5, 6), impl.OK},
		{"the last 6", thereAs(5, 4, 5, 6, 7, 8, 9), impl.OK},
		{"Ids of 1 and 9", thereAs(5, 1, 9), impl.OK},
		{"an Id of 1", thereAs(5, 1), impl.OK},
		{"an Id of 9", thereAs(5, 9), impl.OK},
		{"an Until of 0", thereUntil(0), impl.OK},
		{"an Until of 9999", thereUntil(9999), impl.OK},
		{"Untils that fall", thereUntil(9999, 7, 7, 0), impl.OK},
	}, faultySessions...) {
		if got := impl.SessionsFault(c.list); got != c.want {
			t.Errorf("%s: SessionsFault %d, want %d", c.name, got, c.want)
		}
	}
}

// checkOneCode asks that all that take sessions tell one code and nothing else.
func checkOneCode(t *testing.T, name string, c sessionCall, want int64) {
	t.Helper()
	a := programSessions(c)
	if !sameSessions(a.opened, noSessions(want)) || !sameSessions(a.touched, noSessions(want)) || a.live {
		t.Errorf("%s, of %d at %d: opened %v, touched %v, live %v, want the code %d alone", name, c.id, c.now, a.opened, a.touched, a.live, want)
	}
}

func checkNoSplit(t *testing.T, name string, list []impl.Session, now int64, want int64) {
	t.Helper()
	if got := impl.SplitSessions(list, now); !sameSplit(got, impl.SplitResult{Code: want}) {
		t.Errorf("%s, at %d: SplitSessions %v, want the code %d alone", name, now, got, want)
	}
}

func TestSessionsAreAskedFirst(t *testing.T) {
	for _, c := range faultySessions {
		for _, now := range []int64{-1, 0, 5, 9000, 9001, math.MinInt64, math.MaxInt64} {
			for _, id := range []int64{0, 1, 3, 9, 10, math.MinInt64, math.MaxInt64} {
				checkOneCode(t, c.name, sessionCall{list: c.list, id: id, now: now}, c.want)
			}
			checkNoSplit(t, c.name, c.list, now, c.want)
		}
	}
}

func TestIdAndNowAreAsked(t *testing.T) {
	for name, list := range map[string][]impl.Session{
		"none":      nil,
		"some":      thereAs(9999, 1, 5, 9),
		"some late": thereAs(0, 1, 5, 9),
		"6":         thereAs(9999, 1, 2, 3, 4, 5, 9),
	} {
		for _, id := range []int64{0, 10, -1, 11, math.MinInt64, math.MaxInt64} {
			for _, now := range []int64{-1, 0, 5, 9000, 9001} {
				checkOneCode(t, name, sessionCall{list: list, id: id, now: now}, impl.ErrRange)
			}
		}
		for _, now := range []int64{-1, 9001, 9999, 10000, math.MinInt64, math.MaxInt64} {
			for _, id := range []int64{1, 3, 9, 10} {
				checkOneCode(t, name, sessionCall{list: list, id: id, now: now}, impl.ErrRange)
			}
			checkNoSplit(t, name, list, now, impl.ErrRange)
		}
	}
	for _, id := range []int64{1, 9} {
		for _, now := range []int64{0, 9000} {
			if got, want := impl.OpenSession(nil, id, now), sessionsOf(thereAs(now+10, id)); !sameSessions(got, want) {
				t.Errorf("OpenSession of %d at %d: %v, want %v", id, now, got, want)
			}
			there := thereAs(9000, id)
			if got, want := impl.TouchSession(there, id, now), sessionsOf(thereAs(now+10, id)); !sameSessions(got, want) {
				t.Errorf("TouchSession of %d at %d: %v, want %v", id, now, got, want)
			}
			if !impl.LiveSession(there, id, now) {
				t.Errorf("%d is not live at %d", id, now)
			}
			if got := impl.SplitSessions(there, now); !sameSplit(got, impl.SplitResult{Live: there}) {
				t.Errorf("SplitSessions of %v at %d: %v", there, now, got)
			}
		}
	}
}

func TestOpenSession(t *testing.T) {
	cases := []struct {
		name string
		list []impl.Session
		id   int64
		now  int64
		want impl.SessionsResult
	}{
		{"the first", nil, 2, 5, sessionsOf(thereBy(2, 15))},
		{"the first, of an empty list", []impl.Session{}, 2, 5, sessionsOf(thereBy(2, 15))},
		{"at the first moment", nil, 2, 0, sessionsOf(thereBy(2, 10))},
		{"at the last moment", nil, 2, 9000, sessionsOf(thereBy(2, 9010))},
		{"ahead of all", thereAs(7, 3, 5), 1, 5, sessionsOf(thereBy(1, 15, 3, 7, 5, 7))},
		{"between", thereAs(7, 3, 5), 4, 5, sessionsOf(thereBy(3, 7, 4, 15, 5, 7))},
		{"behind all", thereAs(7, 3, 5), 9, 5, sessionsOf(thereBy(3, 7, 5, 7, 9, 15))},
		{"beside those that are over", thereAs(0, 3, 5), 4, 5000, sessionsOf(thereBy(3, 0, 4, 5010, 5, 0))},
		{"with 5 there", thereAs(7, 1, 2, 3, 4, 6), 5, 5, sessionsOf(thereBy(1, 7, 2, 7, 3, 7, 4, 7, 5, 15, 6, 7))},
		{"with 6 there", thereAs(7, 1, 2, 3, 4, 5, 6), 7, 5, noSessions(impl.ErrMany)},
		{"with 6 there, ahead of all", thereAs(7, 2, 3, 4, 5, 6, 7), 1, 5, noSessions(impl.ErrMany)},
		{"with 6 there that are over", thereAs(0, 1, 2, 3, 4, 5, 6), 7, 5, noSessions(impl.ErrMany)},
		{"it is there", thereAs(7, 2), 2, 5, noSessions(impl.ErrTaken)},
		{"it is there, at its last moment", thereAs(7, 2), 2, 7, noSessions(impl.ErrTaken)},
		{"it is there, and over", thereAs(7, 2), 2, 8, noSessions(impl.ErrTaken)},
		{"it is there, and long over", thereAs(0, 1, 2, 3), 2, 9000, noSessions(impl.ErrTaken)},
		{"it is there among 6, the first", thereAs(7, 1, 2, 3, 4, 5, 6), 1, 5, noSessions(impl.ErrTaken)},
		{"it is there among 6, the last", thereAs(7, 1, 2, 3, 4, 5, 6), 6, 5, noSessions(impl.ErrTaken)},
		{"it is there among 6, and over", thereAs(7, 1, 2, 3, 4, 5, 6), 3, 8, noSessions(impl.ErrTaken)},
	}
	for _, c := range cases {
		if got := impl.OpenSession(c.list, c.id, c.now); !sameSessions(got, c.want) {
			t.Errorf("%s: %v, want %v", c.name, got, c.want)
		}
	}
}

func TestTouchAndLiveSession(t *testing.T) {
	some := thereBy(2, 20, 5, 100, 7, 9999)
	with := func(at int, until int64) impl.SessionsResult {
		list := slices.Clone(some)
		list[at].Until = until
		return sessionsOf(list)
	}
	cases := []struct {
		name string
		list []impl.Session
		id   int64
		now  int64
		want impl.SessionsResult
	}{
		{"nobody is there", nil, 2, 5, noSessions(impl.ErrSession)},
		{"nobody is there, at 0", nil, 2, 0, noSessions(impl.ErrSession)},
		{"not there, ahead of all", some, 1, 5, noSessions(impl.ErrSession)},
		{"not there, ahead of all, at 0", some, 1, 0, noSessions(impl.ErrSession)},
		{"not there, between", some, 3, 5, noSessions(impl.ErrSession)},
		{"not there, behind all", some, 9, 5, noSessions(impl.ErrSession)},
		{"at 0", some, 2, 0, with(0, 10)},
		{"so that it ends sooner than it would have", some, 5, 3, with(1, 13)},
		{"so that it ends as it would have", some, 2, 10, sessionsOf(some)},
		{"just below its Until", some, 2, 19, with(0, 29)},
		{"at its Until", some, 2, 20, with(0, 30)},
		{"just above its Until", some, 2, 21, noSessions(impl.ErrSession)},
		{"far above its Until", some, 2, 9000, noSessions(impl.ErrSession)},
		{"just below that of one between", some, 5, 99, with(1, 109)},
		{"at that of one between", some, 5, 100, with(1, 110)},
		{"just above that of one between", some, 5, 101, noSessions(impl.ErrSession)},
		{"at the last moment of all", some, 7, 9000, with(2, 9010)},
		{"Until 0, at 0", thereUntil(0), 1, 0, sessionsOf(thereUntil(10))},
		{"Until 0, at 1", thereUntil(0), 1, 1, noSessions(impl.ErrSession)},
		{"Until 9000, at 9000", thereUntil(9000), 1, 9000, sessionsOf(thereUntil(9010))},
		{"Until 8999, at 9000", thereUntil(8999), 1, 9000, noSessions(impl.ErrSession)},
		{"one of 6", thereUntil(5, 5, 5, 5, 5, 5), 6, 5, sessionsOf(thereUntil(5, 5, 5, 5, 5, 15))},
	}
	for _, c := range cases {
		if got := impl.TouchSession(c.list, c.id, c.now); !sameSessions(got, c.want) {
			t.Errorf("%s: TouchSession %v, want %v", c.name, got, c.want)
		}
		if got := impl.LiveSession(c.list, c.id, c.now); got != (c.want.Code == impl.OK) {
			t.Errorf("%s: LiveSession %v", c.name, got)
		}
	}
}

func TestSplitSessions(t *testing.T) {
	some := thereBy(2, 20, 5, 100, 7, 20, 9, 9999)
	cases := []struct {
		name string
		list []impl.Session
		now  int64
		want impl.SplitResult
	}{
		{"nil", nil, 0, impl.SplitResult{}},
		{"none", []impl.Session{}, 9000, impl.SplitResult{}},
		{"all live, at 0", some, 0, impl.SplitResult{Live: some}},
		{"just below an Until", some, 19, impl.SplitResult{Live: some}},
		{"at an Until", some, 20, impl.SplitResult{Live: some}},
		{"just above an Until", some, 21, impl.SplitResult{Live: thereBy(5, 100, 9, 9999), Over: []int64{2, 7}}},
		{"at the next Until", some, 100, impl.SplitResult{Live: thereBy(5, 100, 9, 9999), Over: []int64{2, 7}}},
		{"just above the next Until", some, 101, impl.SplitResult{Live: thereBy(9, 9999), Over: []int64{2, 5, 7}}},
		{"at the last moment", some, 9000, impl.SplitResult{Live: thereBy(9, 9999), Over: []int64{2, 5, 7}}},
		{"Until 0, at 0", thereUntil(0, 0), 0, impl.SplitResult{Live: thereUntil(0, 0)}},
		{"Until 0, at 1", thereUntil(0, 0), 1, impl.SplitResult{Over: []int64{1, 2}}},
		{"6 that are over", thereUntil(6, 5, 4, 3, 2, 1), 7, impl.SplitResult{Over: []int64{1, 2, 3, 4, 5, 6}}},
		{"6, half of them over", thereUntil(6, 5, 4, 3, 2, 1), 4, impl.SplitResult{Live: thereUntil(6, 5, 4), Over: []int64{4, 5, 6}}},
		{"6 that are live", thereUntil(6, 5, 4, 3, 2, 1), 1, impl.SplitResult{Live: thereUntil(6, 5, 4, 3, 2, 1)}},
	}
	for _, c := range cases {
		if got := impl.SplitSessions(c.list, c.now); !sameSplit(got, c.want) {
			t.Errorf("%s: %v, want %v", c.name, got, c.want)
		}
	}
}

// ownedTree has nobody's nodes and several of 1, 2 and 9, under the top and further down.
var ownedTree = []impl.Znode{
	{Path: "/", Data: 1, Version: 2, Next: 3},
	{Path: "/a", Data: 4, Next: 100},
	{Path: "/a/b", Owner: 1, Data: 5},
	{Path: "/a/c", Owner: 2, Version: 999},
	{Path: "/a/d", Next: 7},
	{Path: "/a/d/e", Owner: 1},
	{Path: "/a0", Owner: 9, Next: 8},
	{Path: "/b", Owner: 2},
	{Path: "/c", Data: 9999},
}

func TestDropOwned(t *testing.T) {
	left := func(paths ...string) impl.ZResult {
		return impl.ZResult{Nodes: but(ownedTree, paths...)}
	}
	cases := []struct {
		name  string
		nodes []impl.Znode
		ids   []int64
		want  impl.ZResult
	}{
		{"nil", ownedTree, nil, left()},
		{"no ids", ownedTree, []int64{}, left()},
		{"0 alone", ownedTree, []int64{0}, left()},
		{"0 twice", ownedTree, []int64{0, 0}, left()},
		{"1", ownedTree, []int64{1}, left("/a/b", "/a/d/e")},
		{"2", ownedTree, []int64{2}, left("/a/c", "/b")},
		{"9", ownedTree, []int64{9}, left("/a0")},
		{"0 ahead of 2", ownedTree, []int64{0, 2}, left("/a/c", "/b")},
		{"0 behind 2", ownedTree, []int64{2, 0}, left("/a/c", "/b")},
		{"2 twice", ownedTree, []int64{2, 2}, left("/a/c", "/b")},
		{"2 and 1, falling", ownedTree, []int64{2, 1}, left("/a/b", "/a/c", "/a/d/e", "/b")},
		{"one that owns nothing", ownedTree, []int64{3}, left()},
		{"one that owns nothing, and one that does", ownedTree, []int64{3, 9, 8}, left("/a0")},
		{"all there can be", ownedTree, []int64{1, 2, 3, 4, 5, 6, 7, 8, 9}, left("/a/b", "/a/c", "/a/d/e", "/a0", "/b")},
		{"below 0 and beyond 9", ownedTree, []int64{-1, 10, -9, 11, math.MinInt64, math.MaxInt64}, left()},
		{"1 among those beyond", ownedTree, []int64{-1, 1, 10}, left("/a/b", "/a/d/e")},
		{"9 ids, one of which owns something", ownedTree, []int64{0, 0, 0, 0, 0, 0, 0, 0, 9}, left("/a0")},
		{"10 ids", ownedTree, []int64{1, 2, 3, 4, 5, 6, 7, 8, 9, 9}, codeOf(impl.ErrMany)},
		{"10 of 0", ownedTree, alike(0, 10), codeOf(impl.ErrMany)},
		{"10 ids that own nothing", ownedTree, alike(-1, 10), codeOf(impl.ErrMany)},
		{"the top alone", treeOf(), []int64{0, 1, 9}, impl.ZResult{Nodes: treeOf()}},
		{"the top alone, 10 ids", treeOf(), alike(1, 10), codeOf(impl.ErrMany)},
		{"20 nodes of one", ownedBy(5, wideTree(20)), []int64{5}, impl.ZResult{Nodes: treeOf()}},
		{"20 nodes of another", ownedBy(5, wideTree(20)), []int64{6}, impl.ZResult{Nodes: ownedBy(5, wideTree(20))}},
	}
	for _, c := range cases {
		if got := impl.DropOwned(c.nodes, c.ids); !sameZ(got, c.want) {
			t.Errorf("%s: %v, want %v", c.name, got, c.want)
		}
	}
}

// ownedBy makes one the Owner of all but the top.
func ownedBy(owner int64, nodes []impl.Znode) []impl.Znode {
	for i := range nodes[1:] {
		nodes[i+1].Owner = owner
	}
	return nodes
}

func TestDropOwnedAsksTheTreeFirst(t *testing.T) {
	for _, c := range faultyTrees {
		for _, ids := range [][]int64{nil, {0}, {1}, alike(1, 9), alike(1, 10), alike(0, 10)} {
			if got := impl.DropOwned(c.nodes, ids); !sameZ(got, codeOf(c.want)) {
				t.Errorf("%s, of %v: %v, want the code %d alone", c.name, ids, got, c.want)
			}
		}
	}
}

func TestSessionsAreWhatTheModelTells(t *testing.T) {
	r := rand.New(rand.NewPCG(13, 1))
	seen, lives := map[int64]int{}, map[bool]int{}
	for range 4000 {
		c := drawnSessionCall(r)
		got, want := programSessions(c), modelSessions(c)
		if !sameSessionAnswers(got, want) {
			t.Fatalf("of %v:\n%v, want\n%v", c, got, want)
		}
		for _, code := range []int64{got.fault, got.opened.Code, got.touched.Code, got.split.Code} {
			seen[code]++
		}
		lives[got.live]++
	}
	for _, code := range []int64{impl.OK, impl.ErrForm, impl.ErrMany, impl.ErrRange, impl.ErrTaken, impl.ErrSession} {
		if seen[code] < 50 {
			t.Errorf("the code %d was told only %d times", code, seen[code])
		}
	}
	if lives[true] < 300 || lives[false] < 300 {
		t.Errorf("live and not: %v", lives)
	}
}

// Promise 5: who is opened is live up to its time and 10, and no longer.
func TestOpenedLivesForItsTimeAndNoLonger(t *testing.T) {
	for _, at := range []int64{0, 1, 5, 4999, 8988, 8989, 8990, 8991, 8999, 9000} {
		for _, id := range []int64{1, 4, 9} {
			list := impl.OpenSession(thereAs(9999, 2, 7), id, at).Sessions
			for now := max(at-20, 0); now <= min(at+20, 9000); now++ {
				live := now <= at+10
				if got := impl.LiveSession(list, id, now); got != live {
					t.Errorf("%d, opened at %d: live at %d: %v", id, at, now, got)
				}
				split := impl.SplitSessions(list, now)
				if slices.Contains(split.Over, id) == live || slices.ContainsFunc(split.Live, hasId(id)) != live {
					t.Errorf("%d, opened at %d, is split at %d: %v", id, at, now, split)
				}
				touched := impl.TouchSession(list, id, now)
				if live && !impl.LiveSession(touched.Sessions, id, min(now+10, 9000)) || !live && touched.Code != impl.ErrSession {
					t.Errorf("%d, opened at %d, is touched at %d: %v", id, at, now, touched)
				}
				if live && now+11 <= 9000 && impl.LiveSession(touched.Sessions, id, now+11) {
					t.Errorf("%d, touched at %d, is live at %d", id, now, now+11)
				}
			}
		}
	}
}

func hasId(id int64) func(impl.Session) bool {
	return func(s impl.Session) bool { return s.Id == id }
}

// lastTold keeps for each Id the last moment at which it was told to be there.
type lastTold map[int64]int64

func (last lastTold) live(id int64, now int64) bool {
	at, told := last[id]
	return told && now-at <= 10
}

// Promise 5: as time goes on each lives for its time from when it was heard last, whatever the others do.
func TestEachLivesByItself(t *testing.T) {
	opened, ended := 0, 0
	for seed := range uint64(30) {
		r := rand.New(rand.NewPCG(seed, 14))
		var list []impl.Session
		last := lastTold{}
		for now := int64(0); now < 1200; now += r.Int64N(5) {
			for id := int64(1); id <= 9; id++ {
				if got := impl.LiveSession(list, id, now); got != last.live(id, now) {
					t.Fatalf("at %d in %v: %d is live: %v", now, list, id, got)
				}
			}
			id := drawn(r, drawnIds)
			ask := impl.TouchSession
			if r.IntN(2) == 0 {
				ask = impl.OpenSession
			}
			if got := ask(list, id, now); got.Code == impl.OK {
				list, last[id] = got.Sessions, now
				opened++
			}
			if r.IntN(3) > 0 {
				continue
			}
			split := impl.SplitSessions(list, now)
			for _, gone := range split.Over {
				if last.live(gone, now) {
					t.Fatalf("at %d in %v: %d is gone too soon", now, list, gone)
				}
				delete(last, gone)
				ended++
			}
			if len(split.Live) != len(last) || impl.SessionsFault(split.Live) != impl.OK {
				t.Fatalf("at %d in %v: %v", now, list, split)
			}
			list = split.Live
		}
	}
	if opened < 1000 || ended < 500 {
		t.Errorf("only %d opened or touched, %d gone", opened, ended)
	}
}

// Promise 5: what is opened or touched leaves all others as they were.
func TestOthersStayAsTheyWere(t *testing.T) {
	r := rand.New(rand.NewPCG(15, 15))
	done := 0
	for range 2000 {
		now := drawn(r, drawnNows)
		list, id := drawnSessions(r, now), drawn(r, drawnIds)
		others := slices.DeleteFunc(slices.Clone(list), hasId(id))
		for _, got := range []impl.SessionsResult{impl.OpenSession(list, id, now), impl.TouchSession(list, id, now)} {
			if got.Code != impl.OK {
				continue
			}
			done++
			if !slices.Contains(got.Sessions, impl.Session{Id: id, Until: now + 10}) || !slices.Equal(slices.DeleteFunc(slices.Clone(got.Sessions), hasId(id)), others) {
				t.Fatalf("%d at %d in %v: %v", id, now, list, got)
			}
			if impl.SessionsFault(got.Sessions) != impl.OK {
				t.Fatalf("%d at %d in %v: %v has a fault", id, now, list, got)
			}
		}
	}
	if done < 800 {
		t.Errorf("only %d were opened or touched", done)
	}
}

// Promise 5: who is gone owns nothing any more, and nobody else loses anything.
func TestWhoIsGoneOwnsNothing(t *testing.T) {
	r := rand.New(rand.NewPCG(16, 16))
	dropped, kept := 0, 0
	for range 1500 {
		now := drawn(r, drawnNows)
		nodes, gone := drawnOwned(r), impl.SplitSessions(drawnSessions(r, now), now).Over
		if r.IntN(4) == 0 {
			gone = append(gone, 0)
		}
		left := impl.DropOwned(nodes, gone)
		if left.Code != impl.OK || left.Path != "" || impl.TreeFault(left.Nodes) != impl.OK {
			t.Fatalf("%v of %v: %v", gone, nodes, left)
		}
		at := 0
		for _, z := range nodes {
			if z.Owner != 0 && slices.Contains(gone, z.Owner) {
				dropped++
				continue
			}
			if at >= len(left.Nodes) || left.Nodes[at] != z {
				t.Fatalf("%v of %v: %v is not as it was: %v", gone, nodes, z, left)
			}
			at++
			kept++
		}
		if at != len(left.Nodes) {
			t.Fatalf("%v of %v: owned yet: %v", gone, nodes, left)
		}
	}
	if dropped < 500 || kept < 5000 {
		t.Errorf("only %d nodes dropped, %d kept", dropped, kept)
	}
}

// Promise 1: every argument has an answer, however long a list is or how odd its numbers are.
func TestEverySessionIsAnswered(t *testing.T) {
	far := []int64{math.MinInt64, math.MinInt64 + 1, -1, 0, 1, 9, 10, 9000, 9001, 9999, 10000, math.MaxInt64 - 10, math.MaxInt64}
	trees := [][]impl.Znode{nil, {}, treeOf(), ownedTree, wideTree(21), make([]impl.Znode, 1<<12)}
	for _, n := range far {
		for _, m := range far {
			lists := [][]impl.Session{nil, {}, thereBy(n, m), thereBy(m, n, 9, m), thereBy(1, m, n, m), make([]impl.Session, 1<<12), slices.Repeat(thereBy(n, m), 7)}
			for i, list := range lists {
				for many, nodes := range trees {
					c := sessionCall{list, n, m, nodes, alike(n, 9*i+many)}
					if got, want := programSessions(c), modelSessions(c); !sameSessionAnswers(got, want) {
						t.Fatalf("of list %d and tree %d with %d and %d: %v, want %v", i, many, n, m, got, want)
					}
				}
			}
		}
	}
}

// Promise 1: an answer hangs on the arguments alone, so it is the same in whatever order it is asked.
func TestSessionAnswersHangOnArgumentsAlone(t *testing.T) {
	r := rand.New(rand.NewPCG(17, 17))
	checkAgain(t, drawnMany(r, 300, drawnSessionCall), programSessions, sameSessionAnswers)
}

// sharesText tells whether any text of the one nodes lies where one of the others does.
func sharesText(a []impl.Znode, b []impl.Znode) bool {
	for _, old := range textsIn(a) {
		for _, text := range textsIn(b) {
			if sharesMemory(old, text) {
				return true
			}
		}
	}
	return false
}

// Promise 1: what is answered shares no memory with what is handed in, nor the two lists of one answer with each other.
func TestSessionAnswersAreNewMemory(t *testing.T) {
	r := rand.New(rand.NewPCG(18, 18))
	for i := range 1500 {
		c := drawnSessionCall(r)
		c.list, c.nodes, c.ids = roomy(c.list), ownNodes(c.nodes), roomy(c.ids)
		if i%3 == 0 {
			// Where nothing is dropped or over, handing back what came in would be nearest.
			c.ids, c.now = roomy([]int64{0}), 0
		}
		a := programSessions(c)
		for _, list := range [][]impl.Session{a.opened.Sessions, a.touched.Sessions, a.split.Live} {
			if sharesRoom(list, c.list) {
				t.Fatalf("of %v: %v shares the sessions", c, list)
			}
		}
		if sharesRoom(a.split.Over, c.list) || sharesRoom(a.split.Over, a.split.Live) {
			t.Fatalf("of %v: %v shares its lists", c, a.split)
		}
		if sharesRoom(a.dropped.Nodes, c.nodes) || sharesText(c.nodes, a.dropped.Nodes) {
			t.Fatalf("of %v: %v shares the nodes", c, a.dropped)
		}
		again := programSessions(c)
		clear(a.opened.Sessions[:cap(a.opened.Sessions)])
		clear(a.touched.Sessions[:cap(a.touched.Sessions)])
		clear(a.split.Live[:cap(a.split.Live)])
		clear(a.split.Over[:cap(a.split.Over)])
		clear(a.dropped.Nodes[:cap(a.dropped.Nodes)])
		if want := modelSessions(c); !sameSessionAnswers(again, want) {
			t.Fatalf("of %v: two answers share their lists", c)
		}
	}
}

// Promise 1: no call changes the sessions, nodes or ids that are handed in, nor what lies behind them.
func TestSessionArgumentsStayAsTheyAre(t *testing.T) {
	r := rand.New(rand.NewPCG(19, 19))
	for range 1000 {
		c := drawnSessionCall(r)
		c.list, c.nodes, c.ids = roomy(c.list), ownNodes(c.nodes), roomy(c.ids)
		list, nodes, ids := c.list[:cap(c.list)], c.nodes[:cap(c.nodes)], c.ids[:cap(c.ids)]
		oldList, oldNodes, oldIds := slices.Clone(list), slices.Clone(nodes), slices.Clone(ids)
		programSessions(c)
		if !slices.Equal(list, oldList) || !slices.Equal(nodes, oldNodes) || !slices.Equal(ids, oldIds) {
			t.Fatalf("changed: %v", c)
		}
	}
}
