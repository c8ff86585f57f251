package tests

import (
	"math"
	"math/rand/v2"
	"slices"
	"strings"
	"testing"

	"loop.example/g00369/impl"
)

func on(client int64, path string) impl.Watch {
	return impl.Watch{Client: client, Path: path}
}

func watching(list ...impl.Watch) []impl.Watch {
	return list
}

func madeFor(client int64, path string) impl.Event {
	return impl.Event{Client: client, Path: path, Kind: impl.EventMade}
}

func goneFor(client int64, path string) impl.Event {
	return impl.Event{Client: client, Path: path, Kind: impl.EventGone}
}

func turnedFor(client int64, path string) impl.Event {
	return impl.Event{Client: client, Path: path, Kind: impl.EventTurned}
}

func events(list ...impl.Event) []impl.Event {
	return list
}

func left(list ...impl.Watch) impl.WatchResult {
	return impl.WatchResult{Watches: list}
}

func noWatches(code int64) impl.WatchResult {
	return impl.WatchResult{Code: code}
}

// manyWatches are watches no two of which are alike.
func manyWatches(many int) []impl.Watch {
	var list []impl.Watch
	for i := range many {
		list = append(list, on(int64(i)%9+1, "/k"+string([]byte{byte('a' + i/9)})))
	}
	return list
}

func TestWatchBounds(t *testing.T) {
	if got := [...]int{impl.MaxWatches, impl.EventMade, impl.EventGone, impl.EventTurned}; got != [...]int{20, 1, 2, 3} {
		t.Errorf("MaxWatches and kinds of events: %v, want 20, 1, 2 and 3", got)
	}
}

type watchesCase struct {
	name string
	list []impl.Watch
	want int64
}

const longPath = "/abcdefgh/abcdefgh/abcde"
const tooLongPath = "/abcdefgh/abcdefgh/abcdef"

var faultyWatches = []watchesCase{
	{"21", manyWatches(21), impl.ErrMany},
	{"21 that are none", make([]impl.Watch, 21), impl.ErrMany},
	{"21 that are the same", slices.Repeat(watching(on(1, "/a")), 21), impl.ErrMany},
	{"20 that are none", make([]impl.Watch, 20), impl.ErrRange},
	{"20 that are the same", slices.Repeat(watching(on(1, "/a")), 20), impl.ErrTaken},
	{"the zero value", watching(impl.Watch{}), impl.ErrRange},
	{"a Client of 0", watching(on(0, "/a")), impl.ErrRange},
	{"a Client of 10", watching(on(10, "/a")), impl.ErrRange},
	{"no path", watching(on(1, "")), impl.ErrText},
	{"a text that is no path", watching(on(1, "/a/")), impl.ErrText},
	{"a path of one byte too many", watching(on(1, tooLongPath)), impl.ErrMany},
	{"a path of 5 names", watching(on(1, "/a/b/c/d/e")), impl.ErrMany},
	{"the last of 20 has a wrong Client", append(manyWatches(19), on(10, "/a")), impl.ErrRange},
	{"the last of 20 has a wrong path", append(manyWatches(19), on(1, "/A")), impl.ErrText},
	{"two alike", watching(on(1, "/a"), on(1, "/a")), impl.ErrTaken},
	{"the first and the last of three alike", watching(on(1, "/a"), on(2, "/a"), on(1, "/a")), impl.ErrTaken},
	{"the first and the last of 20 alike", append(manyWatches(19), manyWatches(1)...), impl.ErrTaken},
	{"the last two of 20 alike", append(manyWatches(19), manyWatches(19)[18]), impl.ErrTaken},
	{"two at the top alike", watching(on(9, "/"), on(1, "/a"), on(9, "/")), impl.ErrTaken},
	{"in one: a wrong Client ahead of a wrong path", watching(on(0, "/a/")), impl.ErrRange},
	{"in one: a wrong Client ahead of a long path", watching(on(10, tooLongPath)), impl.ErrRange},
	{"in two: a wrong Client ahead of a wrong path", watching(on(0, "/a"), on(1, "/a/")), impl.ErrRange},
	{"in two: a wrong path ahead of a wrong Client", watching(on(1, "/a/"), on(0, "/a")), impl.ErrText},
	{"in two: a long path ahead of a wrong Client", watching(on(1, tooLongPath), on(0, "/a")), impl.ErrMany},
	{"in two: two alike ahead of a wrong Client", watching(on(1, "/a"), on(1, "/a"), on(0, "/a")), impl.ErrTaken},
	{"in two: two alike ahead of a wrong path", watching(on(1, "/a"), on(1, "/a"), on(1, "")), impl.ErrTaken},
	{"in two: a wrong Client ahead of two alike", watching(on(1, "/a"), on(0, "/a"), on(1, "/a")), impl.ErrRange},
	{"in two: a wrong path ahead of two alike", watching(on(1, "/a"), on(1, "/A"), on(1, "/a")), impl.ErrText},
	{"two alike with a wrong Client", watching(on(0, "/a"), on(0, "/a")), impl.ErrRange},
	{"two alike with a wrong path", watching(on(1, "/a/"), on(1, "/a/")), impl.ErrText},
}

func checkWatches(t *testing.T, name string, list []impl.Watch, want int64) {
	t.Helper()
	if got := impl.WatchesFault(list); got != want {
		t.Errorf("%s: WatchesFault of %.80q: %d, want %d", name, textsOfWatches(list), got, want)
	}
}

func TestWatchesFault(t *testing.T) {
	for _, c := range faultyWatches {
		checkWatches(t, c.name, c.list, c.want)
	}
	checkWatches(t, "nil", nil, impl.OK)
	checkWatches(t, "none", watching(), impl.OK)
	checkWatches(t, "1", manyWatches(1), impl.OK)
	checkWatches(t, "20", manyWatches(20), impl.OK)
	checkWatches(t, "the least Client", watching(on(1, "/a")), impl.OK)
	checkWatches(t, "the greatest Client", watching(on(9, "/a")), impl.OK)
	checkWatches(t, "the top", watching(on(1, "/")), impl.OK)
	checkWatches(t, "24 bytes", watching(on(1, longPath)), impl.OK)
	checkWatches(t, "4 names", watching(on(1, "/a/b/c/d")), impl.OK)
	checkWatches(t, "two of one Client", watching(on(4, "/a"), on(4, "/b")), impl.OK)
	checkWatches(t, "two on one path", watching(on(4, "/a"), on(5, "/a")), impl.OK)
	checkWatches(t, "on a path and one under it", watching(on(4, "/a"), on(4, "/a/b"), on(4, "/")), impl.OK)
	checkWatches(t, "neither rises", watching(on(9, "/b"), on(9, "/a"), on(1, "/c"), on(1, "/a")), impl.OK)
}

// Wherever a watch stands it is asked, and so are a watch that is added and an event.
func TestWatchesFaultAsksEach(t *testing.T) {
	check := func(w impl.Watch) {
		t.Helper()
		want := modelSeatFault(w.Client, w.Path)
		checkWatches(t, "alone", watching(w), want)
		checkWatches(t, "the first", append(watching(w), manyWatches(3)...), want)
		checkWatches(t, "between", slices.Insert(manyWatches(3), 1, w), want)
		checkWatches(t, "the last", append(manyWatches(3), w), want)
		wanted := left(append(manyWatches(3), w)...)
		if want != impl.OK {
			wanted = noWatches(want)
		}
		if got := impl.AddWatch(manyWatches(3), w); !sameWatched(got, wanted) {
			t.Errorf("AddWatch of %d on %.80q: the code %d, want %d", w.Client, w.Path, got.Code, want)
		}
		text := impl.EventText(impl.Event{Client: w.Client, Path: w.Path, Kind: 1})
		if text.Code != want || (text.Text == "") != (want != impl.OK) {
			t.Errorf("EventText of %d and %.80q: %q, want the code %d", w.Client, w.Path, text.Text, want)
		}
	}
	for _, client := range edges {
		for _, path := range []string{"/", "/a", longPath, "/a/b/c/d", "", "a", "/A", "/a/", tooLongPath, "/a/b/c/d/e"} {
			check(on(client, path))
		}
	}
	for _, path := range manyTexts() {
		check(on(5, path))
	}
}

func TestAddWatch(t *testing.T) {
	three := watching(on(5, "/c"), on(1, "/a"), on(3, "/b"))
	check := func(name string, list []impl.Watch, w impl.Watch, want impl.WatchResult) {
		t.Helper()
		if got := impl.AddWatch(list, w); !sameWatched(got, want) {
			t.Errorf("%s: AddWatch of %+v: %+v, want %+v", name, w, got, want)
		}
	}
	for _, empty := range [][]impl.Watch{nil, {}} {
		check("to none", empty, on(1, "/a"), left(on(1, "/a")))
	}
	check("the top", three, on(9, "/"), left(append(three, on(9, "/"))...))
	check("what is ahead of all", three, on(1, "/"), left(append(three, on(1, "/"))...))
	check("of a Client who has one", three, on(1, "/b"), left(append(three, on(1, "/b"))...))
	check("on a path that is watched", three, on(2, "/a"), left(append(three, on(2, "/a"))...))
	for _, w := range three {
		check("one that is there", three, w, left(three...))
		check("one that is there, alone", watching(w), w, left(w))
	}
	for _, many := range []int{1, 2, 10, 19, 20} {
		list := manyWatches(many)
		for _, w := range list {
			check("one of many that is there", list, w, left(list...))
		}
		want := left(append(list, on(1, "/zz"))...)
		if many == 20 {
			want = noWatches(impl.ErrMany)
		}
		check("one of many that is not there", list, on(1, "/zz"), want)
	}
	check("a wrong Client", three, on(0, "/a"), noWatches(impl.ErrRange))
	check("another wrong Client", three, on(10, "/a"), noWatches(impl.ErrRange))
	check("a wrong path", three, on(1, "/a/"), noWatches(impl.ErrText))
	check("a long path", three, on(1, tooLongPath), noWatches(impl.ErrMany))
	check("both wrong", three, on(0, "/a/"), noWatches(impl.ErrRange))
	check("a Client, ahead of too many", manyWatches(20), on(0, "/a"), noWatches(impl.ErrRange))
	check("a path, ahead of too many", manyWatches(20), on(1, ""), noWatches(impl.ErrText))
	for _, c := range faultyWatches {
		for _, w := range append(watching(on(7, "/zz"), on(0, "/a"), on(1, "/A"), impl.Watch{}, on(11, tooLongPath)), c.list...) {
			check(c.name, c.list, w, noWatches(c.want))
		}
	}
}

func checkChange(t *testing.T, name string, before []impl.Znode, after []impl.Znode, path string, want impl.IntResult) {
	t.Helper()
	if got := impl.ChangeOf(before, after, path); got != want {
		t.Errorf("%s: ChangeOf %q %+v, want %+v", name, path, got, want)
	}
}

// besides are nodes that differ from one in one thing, and what each of these is called.
func besides(z impl.Znode) []struct {
	name string
	z    impl.Znode
	want int64
} {
	version, data, both, owner, next := z, z, z, z, z
	version.Version++
	data.Data++
	both.Version, both.Data = both.Version+1, both.Data+1
	owner.Owner++
	next.Next++
	return []struct {
		name string
		z    impl.Znode
		want int64
	}{{"nothing", z, 0}, {"Version", version, 3}, {"Data", data, 3}, {"Version and Data", both, 3}, {"Owner", owner, 0}, {"Next", next, 0}}
}

func TestChangeOf(t *testing.T) {
	none, one := treeOf("/b"), treeOf("/a", "/b")
	checkChange(t, "in neither", none, none, "/a", valueOf(0))
	checkChange(t, "in neither, as its parent", none, none, "/b/c", valueOf(0))
	checkChange(t, "after alone", none, one, "/a", valueOf(impl.EventMade))
	checkChange(t, "before alone", one, none, "/a", valueOf(impl.EventGone))
	checkChange(t, "in both", one, one, "/a", valueOf(0))
	checkChange(t, "another one is made", none, one, "/b", valueOf(0))
	checkChange(t, "another one is gone", one, none, "/b", valueOf(0))
	checkChange(t, "the top, with another kid", none, one, "/", valueOf(0))
	checkChange(t, "the top, with a kid less", one, none, "/", valueOf(0))
	checkChange(t, "a parent, with another kid", one, treeOf("/a", "/a/b", "/b"), "/a", valueOf(0))
	checkChange(t, "a name that begins so", one, treeOf("/a", "/aa", "/b"), "/aa", valueOf(impl.EventMade))
	checkChange(t, "a name that begins so, beside it", one, treeOf("/a", "/aa", "/b"), "/a", valueOf(0))
	checkChange(t, "the greatest path", treeOf("/abcdefgh", "/abcdefgh/abcdefgh"), treeOf("/abcdefgh", "/abcdefgh/abcdefgh", longPath), longPath, valueOf(impl.EventMade))
	checkChange(t, "four names", treeOf("/a", "/a/b", "/a/b/c", "/a/b/c/d"), treeOf("/a", "/a/b", "/a/b/c"), "/a/b/c/d", valueOf(impl.EventGone))
	for _, many := range []int{1, 2, 20} {
		nodes := wideTree(many)
		for _, z := range nodes[1:] {
			checkChange(t, "one of many is gone", nodes, but(nodes, z.Path), z.Path, valueOf(impl.EventGone))
			checkChange(t, "one of many is made", but(nodes, z.Path), nodes, z.Path, valueOf(impl.EventMade))
		}
	}
	for _, old := range []impl.Znode{{Path: "/m"}, {Path: "/m", Data: 9998, Version: 998, Owner: 8, Next: 99}, {Path: "/m", Data: 5, Version: 5}} {
		for _, c := range besides(old) {
			before, after := treeWith(old, "/k", "/m", "/n"), treeWith(c.z, "/k", "/m", "/n")
			checkChange(t, "another "+c.name, before, after, "/m", valueOf(c.want))
			checkChange(t, "another "+c.name+", the other way", after, before, "/m", valueOf(c.want))
			checkChange(t, "another "+c.name+" beside it", before, after, "/n", valueOf(0))
			checkChange(t, "another "+c.name+" under it", before, after, "/", valueOf(0))
		}
	}
	for _, c := range besides(impl.Znode{Path: "/", Data: 1, Version: 1}) {
		if c.name != "Owner" {
			checkChange(t, "the top, another "+c.name, treeWith(impl.Znode{Path: "/", Data: 1, Version: 1}, "/a"), treeWith(c.z, "/a"), "/", valueOf(c.want))
		}
	}
	// What Version gains, Data may lose: each of them is held against its own.
	checkChange(t, "swapped", treeWith(impl.Znode{Path: "/a", Data: 1, Version: 2}, "/a"), treeWith(impl.Znode{Path: "/a", Data: 2, Version: 1}, "/a"), "/a", valueOf(impl.EventTurned))
}

var wrongPaths = []struct {
	path string
	code int64
}{{"", impl.ErrText}, {"a", impl.ErrText}, {"/a/", impl.ErrText}, {"/A", impl.ErrText}, {"/a\n", impl.ErrText}, {"/a/b/c/d/e", impl.ErrMany}, {"/////", impl.ErrMany}, {tooLongPath, impl.ErrMany}, {strings.Repeat("a", 1<<16), impl.ErrMany}}

func TestChangeOfTellsTheFirstCode(t *testing.T) {
	fine := treeOf("/a")
	for _, wrong := range wrongPaths {
		checkChange(t, "a path", fine, fine, wrong.path, noValue(wrong.code))
		checkChange(t, "a path", fine, treeOf(), wrong.path, noValue(wrong.code))
	}
	for _, c := range faultyTrees {
		for _, path := range []string{"/", "/a", "/zz", "", tooLongPath} {
			checkChange(t, "before: "+c.name, c.nodes, fine, path, noValue(c.want))
			checkChange(t, "after: "+c.name, fine, c.nodes, path, noValue(c.want))
			for _, other := range faultyTrees {
				checkChange(t, "before: "+c.name+", after: "+other.name, c.nodes, other.nodes, path, noValue(c.want))
			}
		}
	}
}

type firedCase struct {
	name   string
	list   []impl.Watch
	before []impl.Znode
	after  []impl.Znode
	want   impl.WatchResult
}

func checkFired(t *testing.T, cases []firedCase) {
	t.Helper()
	for _, c := range cases {
		if got := impl.FireWatches(c.list, c.before, c.after); !sameWatched(got, c.want) {
			t.Errorf("%s: %+v, want %+v", c.name, got, c.want)
		}
	}
}

// The trees of these cases: from dawn to dusk /a is turned, /b stays, /c is gone, /d is made.
var dawn = treeWith(impl.Znode{Path: "/a", Data: 5, Version: 1}, "/a", "/b", "/c")
var dusk = treeWith(impl.Znode{Path: "/a", Data: 5, Version: 2}, "/a", "/b", "/d")

func TestFireWatches(t *testing.T) {
	both := func(told []impl.Event, list ...impl.Watch) impl.WatchResult {
		return impl.WatchResult{Events: told, Watches: list}
	}
	checkFired(t, []firedCase{
		{"nil", nil, dawn, dusk, impl.WatchResult{}},
		{"no watch", watching(), dawn, dusk, impl.WatchResult{}},
		{"made", watching(on(1, "/d")), dawn, dusk, both(events(madeFor(1, "/d")))},
		{"gone", watching(on(9, "/c")), dawn, dusk, both(events(goneFor(9, "/c")))},
		{"turned", watching(on(5, "/a")), dawn, dusk, both(events(turnedFor(5, "/a")))},
		{"as it was", watching(on(5, "/b")), dawn, dusk, both(nil, on(5, "/b"))},
		{"never there", watching(on(5, "/zz")), dawn, dusk, both(nil, on(5, "/zz"))},
		{"the top", watching(on(5, "/")), dawn, dusk, both(nil, on(5, "/"))},
		{"the other way", watching(on(1, "/d"), on(1, "/c"), on(1, "/b"), on(1, "/a")), dusk, dawn, both(events(goneFor(1, "/d"), madeFor(1, "/c"), turnedFor(1, "/a")), on(1, "/b"))},
		{"one is told, one is not", watching(on(1, "/a"), on(2, "/b")), dawn, dusk, both(events(turnedFor(1, "/a")), on(2, "/b"))},
		{"one is not told, one is", watching(on(2, "/b"), on(1, "/a")), dawn, dusk, both(events(turnedFor(1, "/a")), on(2, "/b"))},
		{"two Clients on one path", watching(on(7, "/d"), on(3, "/d")), dawn, dusk, both(events(madeFor(7, "/d"), madeFor(3, "/d")))},
		{"two Clients on one path that stays", watching(on(7, "/b"), on(3, "/b")), dawn, dusk, both(nil, on(7, "/b"), on(3, "/b"))},
		{"several, with others between", watching(on(9, "/b"), on(9, "/d"), on(4, "/zz"), on(2, "/a"), on(3, "/b"), on(4, "/c"), on(1, "/d"), on(1, "/")), dawn, dusk, both(events(madeFor(9, "/d"), turnedFor(2, "/a"), goneFor(4, "/c"), madeFor(1, "/d")), on(9, "/b"), on(4, "/zz"), on(3, "/b"), on(1, "/"))},
		{"trees that are the same", watching(on(9, "/b"), on(9, "/d"), on(2, "/a"), on(1, "/")), dusk, dusk, both(nil, on(9, "/b"), on(9, "/d"), on(2, "/a"), on(1, "/"))},
		{"all of 20", manyWatches(20), treeOf(), wideTree(20), impl.WatchResult{Events: toldOf(manyWatches(20), impl.EventMade)}},
		{"all of 20 are gone", manyWatches(20), wideTree(20), treeOf(), impl.WatchResult{Events: toldOf(manyWatches(20), impl.EventGone)}},
		{"none of 20", manyWatches(20), wideTree(20), wideTree(20), left(manyWatches(20)...)},
	})
}

// toldOf are the events of all these watches, of one kind.
func toldOf(list []impl.Watch, kind int64) []impl.Event {
	var told []impl.Event
	for _, w := range list {
		told = append(told, impl.Event{Client: w.Client, Path: w.Path, Kind: kind})
	}
	return told
}

// A node that is gone and made again is seen by what it is alone: trees know nothing of what was between.
func TestMadeAgainIsAsItWas(t *testing.T) {
	first := impl.CreateZ(treeOf("/b"), "/a", 5, 0, false).Nodes
	gone := impl.DeleteZ(first, "/a", -1).Nodes
	same := impl.CreateZ(gone, "/a", 5, 3, false).Nodes
	other := impl.CreateZ(gone, "/a", 6, 0, false).Nodes
	set := impl.SetZ(same, "/a", 5, 0).Nodes
	list := watching(on(2, "/a"), on(1, "/b"))
	told := impl.WatchResult{Events: events(turnedFor(2, "/a")), Watches: list[1:]}
	checkFired(t, []firedCase{
		{"with the same Version and Data", list, first, same, left(list...)},
		{"with another Data", list, first, other, told},
		{"with another Version", list, first, set, told},
		{"with the same Data, of the first Version again", list, set, same, told},
		{"between: gone", list, first, gone, impl.WatchResult{Events: events(goneFor(2, "/a")), Watches: list[1:]}},
		{"between: made", list, gone, same, impl.WatchResult{Events: events(madeFor(2, "/a")), Watches: list[1:]}},
	})
}

func TestFireWatchesTellsTheFirstCode(t *testing.T) {
	fine, list := treeOf("/a"), watching(on(1, "/a"))
	for _, c := range faultyTrees {
		checkFired(t, []firedCase{
			{"before: " + c.name, list, c.nodes, fine, noWatches(c.want)},
			{"after: " + c.name, list, fine, c.nodes, noWatches(c.want)},
			{"no watch, before: " + c.name, nil, c.nodes, fine, noWatches(c.want)},
			{"no watch, after: " + c.name, nil, fine, c.nodes, noWatches(c.want)},
		})
		for _, other := range faultyTrees {
			checkFired(t, []firedCase{{"before: " + c.name + ", after: " + other.name, list, c.nodes, other.nodes, noWatches(c.want)}})
		}
	}
	for _, w := range faultyWatches {
		checkFired(t, []firedCase{{w.name, w.list, fine, treeOf(), noWatches(w.want)}})
		for _, c := range faultyTrees {
			checkFired(t, []firedCase{
				{w.name + ", before: " + c.name, w.list, c.nodes, fine, noWatches(w.want)},
				{w.name + ", after: " + c.name, w.list, fine, c.nodes, noWatches(w.want)},
				{w.name + ", both: " + c.name, w.list, c.nodes, c.nodes, noWatches(w.want)},
			})
		}
	}
}

func TestEventText(t *testing.T) {
	cases := []struct {
		e    impl.Event
		want impl.TextResult
	}{
		{madeFor(1, "/a"), textOf("event 1 /a made")},
		{goneFor(9, "/"), textOf("event 9 / gone")},
		{turnedFor(5, longPath), textOf("event 5 /abcdefgh/abcdefgh/abcde turned")},
		{goneFor(2, "/a/b/c/d"), textOf("event 2 /a/b/c/d gone")},
		{madeFor(0, "/a"), noText(impl.ErrRange)},
		{madeFor(10, "/a"), noText(impl.ErrRange)},
		{impl.Event{}, noText(impl.ErrRange)},
		{impl.Event{Client: 1}, noText(impl.ErrText)},
		{impl.Event{Client: 1, Path: "/a", Kind: 0}, noText(impl.ErrForm)},
		{impl.Event{Client: 1, Path: "/a", Kind: 4}, noText(impl.ErrForm)},
		{impl.Event{Client: 10, Path: "/A", Kind: 4}, noText(impl.ErrRange)},
		{impl.Event{Client: 0, Path: tooLongPath, Kind: 1}, noText(impl.ErrRange)},
		{impl.Event{Client: 0, Path: "/a", Kind: 4}, noText(impl.ErrRange)},
		{impl.Event{Client: 9, Path: "/A", Kind: 0}, noText(impl.ErrText)},
		{impl.Event{Client: 9, Path: tooLongPath, Kind: 4}, noText(impl.ErrMany)},
	}
	for _, c := range cases {
		if got := impl.EventText(c.e); got != c.want {
			t.Errorf("EventText of %+v: %+v, want %+v", c.e, got, c.want)
		}
	}
	for _, client := range edges {
		for _, kind := range append(edges, 3, 4, 5) {
			for _, path := range []string{"/", "/a", "", "/a/b/c/d/e"} {
				e := impl.Event{Client: client, Path: path, Kind: kind}
				if got, want := impl.EventText(e), modelEventText(e); got != want {
					t.Errorf("EventText of %+v: %+v, want %+v", e, got, want)
				}
			}
		}
	}
}

// story numbers requests of client 1, behind one that opens its session; each has the Time of its place.
func story(all ...[]impl.Op) []impl.Request {
	list := []impl.Request{asked(1, 1, 0, opOpen)}
	for i, ops := range all {
		list = append(list, asked(1, int64(i)+2, int64(i)+1, ops...))
	}
	return list
}

func ops(list ...impl.Op) []impl.Op {
	return list
}

type runCase struct {
	name    string
	list    []impl.Request
	watches []impl.Watch
	told    []impl.Event
	left    []impl.Watch
}

func checkRuns(t *testing.T, cases []runCase) {
	t.Helper()
	for _, c := range cases {
		want := impl.WatchResult{Events: c.told, Watches: c.left}
		if got := impl.RunWatched(c.list, c.watches); !sameWatched(got, want) {
			t.Errorf("%s: %+v, want %+v", c.name, got, want)
		}
	}
}

func TestRunWatched(t *testing.T) {
	make1, gone1, set1 := create("/a", 5), deleteOf("/a", -1), setOf("/a", 6, -1)
	onA := watching(on(3, "/a"))
	made := events(madeFor(3, "/a"))
	checkRuns(t, []runCase{
		{"nothing", nil, nil, nil, nil},
		{"empty lists", []impl.Request{}, watching(), nil, nil},
		{"no requests", nil, manyWatches(20), nil, manyWatches(20)},
		{"no watches", story(ops(make1), ops(gone1)), nil, nil, nil},
		{"nobody asks for it", story(ops(make1), ops(set1)), watching(on(1, "/b"), on(1, "/"), on(1, "/a/b")), nil, watching(on(1, "/b"), on(1, "/"), on(1, "/a/b"))},
		{"made", story(ops(make1)), onA, made, nil},
		{"made by one, gone by the next", story(ops(make1), ops(gone1)), onA, made, nil},
		{"made by one, gone by a later one", story(ops(make1), ops(getOf("/a")), ops(create("/b", 1)), ops(gone1)), onA, made, nil},
		{"made, gone and made again", story(ops(make1), ops(gone1), ops(make1)), onA, made, nil},
		{"made and turned", story(ops(make1), ops(set1)), onA, made, nil},
		{"made and gone within one", story(ops(make1, gone1)), onA, nil, onA},
		{"made and gone within one, and made by a later one", story(ops(make1, gone1), ops(getOf("/")), ops(make1)), onA, made, nil},
		{"made, gone and made within one", story(ops(make1, gone1, make1)), onA, made, nil},
		{"made and turned within one", story(ops(make1, set1, set1)), onA, made, nil},
		{"the top is turned", story(ops(setOf("/", 7, -1))), watching(on(2, "/")), events(turnedFor(2, "/")), nil},
		{"the top is set to what it was", story(ops(setOf("/", 0, 0))), watching(on(2, "/")), events(turnedFor(2, "/")), nil},
		{"the top is turned twice", story(ops(setOf("/", 7, -1)), ops(setOf("/", 8, -1))), watching(on(2, "/")), events(turnedFor(2, "/")), nil},
		{"the top is turned and turned back", story(ops(setOf("/", 7, -1)), ops(setOf("/", 0, -1))), watching(on(2, "/")), events(turnedFor(2, "/")), nil},
		{"the top is turned and turned back within one", story(ops(setOf("/", 7, -1), setOf("/", 0, -1))), watching(on(2, "/")), events(turnedFor(2, "/")), nil},
		{"the top gives a number", story(ops(withSeq(make1))), watching(on(2, "/"), on(2, "/a"), on(2, "/a00")), events(madeFor(2, "/a00")), watching(on(2, "/"), on(2, "/a"))},
		{"looks alone", story(ops(getOf("/"), kidsOf("/"), checkOf("/", 0))), watching(on(2, "/"), on(1, "/a")), nil, watching(on(2, "/"), on(1, "/a"))},
		{"two Clients on one path", story(ops(make1)), watching(on(9, "/a"), on(1, "/a")), events(madeFor(9, "/a"), madeFor(1, "/a")), nil},
		{"a Client without a session", story(ops(make1)), watching(on(8, "/a")), events(madeFor(8, "/a")), nil},
	})
}

func TestRunWatchedInOrder(t *testing.T) {
	a, b, c := create("/a", 1), create("/b", 1), create("/c", 1)
	list := watching(on(1, "/c"), on(1, "/zz"), on(1, "/b"), on(2, "/c"), on(1, "/a"), on(1, "/"))
	rest := watching(on(1, "/zz"), on(1, "/"))
	checkRuns(t, []runCase{
		{"within one: as the watches stand", story(ops(a, b, c)), list, events(madeFor(1, "/c"), madeFor(1, "/b"), madeFor(2, "/c"), madeFor(1, "/a")), rest},
		{"over several: as the requests stand", story(ops(a), ops(b), ops(c)), list, events(madeFor(1, "/a"), madeFor(1, "/b"), madeFor(1, "/c"), madeFor(2, "/c")), rest},
		{"both", story(ops(a, c), ops(b)), list, events(madeFor(1, "/c"), madeFor(2, "/c"), madeFor(1, "/a"), madeFor(1, "/b")), rest},
		{"with a turn between", story(ops(b), ops(setOf("/", 1, -1)), ops(deleteOf("/b", -1), a), ops(b)), list, events(madeFor(1, "/b"), turnedFor(1, "/"), madeFor(1, "/a")), watching(on(1, "/c"), on(1, "/zz"), on(2, "/c"))},
	})
	full := story()
	for _, z := range wideTree(20)[1:] {
		full = append(full, asked(1, int64(len(full))+1, 0, create(z.Path, 1)))
	}
	all := manyWatches(20)
	told := toldOf(all, impl.EventMade)
	checkRuns(t, []runCase{{"20 watches", full, all, told, nil}})
	slices.Reverse(all)
	// The first path is made first; who watches it stands as it stands.
	var want []impl.Event
	for _, path := range []string{"/ka", "/kb", "/kc"} {
		for _, e := range toldOf(all, impl.EventMade) {
			if e.Path == path {
				want = append(want, e)
			}
		}
	}
	checkRuns(t, []runCase{{"20 watches, turned about", full, all, want, nil}})
}

func TestRunWatchedOfWhatIsNotDone(t *testing.T) {
	onA := watching(on(3, "/a"), on(3, "/"))
	refused := ops(create("/a", 5), getOf("/zz"))
	nobody := asked(2, 1, 5, create("/a", 5))
	once := story(ops(create("/a", 5)))
	twice := append(once, once...)
	checkRuns(t, []runCase{
		{"a code undoes it", story(refused), onA, nil, onA},
		{"a code undoes it, and a later one does it", story(refused, ops(create("/a", 5))), onA, events(madeFor(3, "/a")), onA[1:]},
		{"no session", []impl.Request{nobody}, onA, nil, onA},
		{"no session yet", append([]impl.Request{nobody}, story(ops(setOf("/", 1, 0)))...), onA, events(turnedFor(3, "/")), onA[:1]},
		{"done twice", twice, onA, events(madeFor(3, "/a")), onA[1:]},
		{"the first one of a Number alone is done", append(story(ops(getOf("/"))), asked(1, 2, 3, create("/a", 5))), onA, nil, onA},
		{"refused, and asked again", append(story(refused), asked(1, 2, 3, create("/a", 5))), onA, nil, onA},
		{"40 of which one is done", slices.Repeat(once, 20), onA, events(madeFor(3, "/a")), onA[1:]},
	})
}

func TestRunWatchedOfWhoIsOver(t *testing.T) {
	own := withOwn(create("/a", 5))
	onA := watching(on(3, "/"), on(3, "/a"), on(2, "/b"))
	over := asked(2, 1, 20, opOpen)
	refused := asked(4, 1, 20, getOf("/"))
	again := asked(2, 2, 20, create("/a", 5), create("/b", 1))
	made := events(madeFor(3, "/a"))
	checkRuns(t, []runCase{
		{"what is over is gone, and was told", append(story(ops(own)), over), onA, made, watching(on(3, "/"), on(2, "/b"))},
		{"what is over and made again", append(story(ops(own)), over, again), onA, append(made, madeFor(2, "/b")), onA[:1]},
	})
	// The one watch of a run is told of what is made; who comes later is told of what is gone, even by a request that has a code.
	for _, late := range []impl.Request{over, refused, asked(1, 9, 20, opOpen), asked(1, 9, 20, getOf("/"))} {
		ahead := impl.RunRequests(story(ops(own))).State
		behind := impl.ApplyRequest(ahead, late).State
		checkFired(t, []firedCase{{"who is over", onA, ahead.Nodes, behind.Nodes, impl.WatchResult{Events: events(goneFor(3, "/a")), Watches: watching(on(3, "/"), on(2, "/b"))}}})
	}
	// At its last moment nobody is over yet.
	ahead := impl.RunRequests(story(ops(own))).State
	last := impl.ApplyRequest(ahead, asked(2, 1, 11, opOpen)).State
	checkFired(t, []firedCase{{"the last moment", onA, ahead.Nodes, last.Nodes, left(onA...)}})
	// What is over by the time of a request and made by the same one is as it was, or turned.
	opened := impl.ApplyRequest(ahead, asked(2, 1, 11, opOpen)).State
	same := impl.ApplyRequest(opened, asked(2, 2, 20, create("/a", 5))).State
	other := impl.ApplyRequest(opened, asked(2, 2, 20, create("/a", 6))).State
	checkFired(t, []firedCase{
		{"over and made again, as it was", onA, opened.Nodes, same.Nodes, left(onA...)},
		{"over and made again, of other Data", onA, opened.Nodes, other.Nodes, impl.WatchResult{Events: events(turnedFor(3, "/a")), Watches: watching(on(3, "/"), on(2, "/b"))}},
	})
}

func TestRunWatchedTellsTheFirstCode(t *testing.T) {
	onTop := watching(on(3, "/"))
	check := func(name string, list []impl.Request, watches []impl.Watch, want int64) {
		t.Helper()
		if got := impl.RunWatched(list, watches); !sameWatched(got, noWatches(want)) {
			t.Errorf("%s: %+v, want the code %d alone", name, got, want)
		}
	}
	checkRuns(t, []runCase{{"40", oneByOne(40), onTop, events(turnedFor(3, "/")), nil}})
	check("41", oneByOne(41), onTop, impl.ErrMany)
	check("41, no watch", oneByOne(41), nil, impl.ErrMany)
	check("the same 41 times", slices.Repeat(oneByOne(1), 41), onTop, impl.ErrMany)
	wrongs := map[int64]impl.Request{impl.ErrRange: asked(0, 1, 1, opOpen), impl.ErrMany: asked(1, 50, 1), impl.ErrForm: asked(1, 51, 1, opOpen, opClose), impl.ErrText: asked(1, 52, 1, getOf("x"))}
	for code, wrong := range wrongs {
		for _, many := range []int{1, 2, 5, 40} {
			for _, at := range []int{0, many / 2, many - 1} {
				list := oneByOne(many)
				list[at] = wrong
				check("a fault", list, onTop, code)
				check("a fault, no watch", list, nil, code)
				check("a fault, a watch that is not told", list, watching(on(1, "/zz")), code)
				for _, c := range faultyWatches {
					check("a fault, and watches: "+c.name, list, c.list, c.want)
				}
			}
		}
		list := oneByOne(41)
		list[5] = wrong
		check("41, and a fault", list, onTop, impl.ErrMany)
	}
	for _, c := range faultyWatches {
		check("no requests, watches: "+c.name, nil, c.list, c.want)
		check("requests, watches: "+c.name, oneByOne(5), c.list, c.want)
		check("41 requests, watches: "+c.name, oneByOne(41), c.list, c.want)
	}
}

func TestWatchesAreWhatTheModelTells(t *testing.T) {
	r := rand.New(rand.NewPCG(35, 1))
	faults, adds, fires, runs := map[int64]int{}, map[int64]int{}, map[int64]int{}, map[int64]int{}
	kinds := map[int64]int{}
	for range 4000 {
		c := drawnWatchCall(r)
		got, want := programWatches(c), modelWatches(c)
		if !sameWatchAnswers(got, want) {
			t.Fatalf("of %+v:\n%+v, want\n%+v", c, got, want)
		}
		faults[got.fault]++
		adds[got.added.Code]++
		fires[got.fired.Code]++
		runs[got.run.Code]++
		for _, e := range slices.Concat(got.fired.Events, got.run.Events) {
			kinds[e.Kind]++
		}
	}
	for _, code := range []int64{impl.OK, impl.ErrMany, impl.ErrRange, impl.ErrText, impl.ErrTaken} {
		if faults[code] < 20 || adds[code] < 20 || fires[code] < 20 || runs[code] < 20 {
			t.Errorf("the code %d was told only %d times of watches, %d times where one was added, %d and %d times where they were fired", code, faults[code], adds[code], fires[code], runs[code])
		}
	}
	for kind := int64(1); kind <= 3; kind++ {
		if kinds[kind] < 500 {
			t.Errorf("events of the kind %d were told only %d times", kind, kinds[kind])
		}
	}
}

// watchesOf are the watches that events were told to.
func watchesOf(told []impl.Event) []impl.Watch {
	var list []impl.Watch
	for _, e := range told {
		list = append(list, on(e.Client, e.Path))
	}
	return list
}

// checkEachOnce asks that the watches that were told and those that are left are together those that were handed in, each once; those that are left stand in their order.
func checkEachOnce(t *testing.T, list []impl.Watch, got impl.WatchResult) {
	t.Helper()
	count := map[impl.Watch]int{}
	for _, w := range slices.Concat(watchesOf(got.Events), got.Watches) {
		count[w]++
	}
	for _, w := range list {
		if count[w] != 1 {
			t.Fatalf("of %+v: %+v has %+v %d times", list, got, w, count[w])
		}
	}
	if len(count) != len(list) {
		t.Fatalf("of %+v: %+v", list, got)
	}
	at := -1
	for _, w := range got.Watches {
		now := slices.Index(list, w)
		if now <= at {
			t.Fatalf("of %+v: %+v stands in another order", list, got)
		}
		at = now
	}
}

// lookOf is what of a node is watched: whether it is there, its Version and its Data.
func lookOf(nodes []impl.Znode, path string) [3]int64 {
	for _, z := range nodes {
		if z.Path == path {
			return [3]int64{1, z.Version, z.Data}
		}
	}
	return [3]int64{}
}

// Promise 8: who watches is told just of what turned, and once.
func TestWhoWatchesIsToldOfWhatTurned(t *testing.T) {
	r := rand.New(rand.NewPCG(36, 36))
	told, leftOver := 0, 0
	for range 3000 {
		c := drawnFine(r)
		got := impl.FireWatches(c.list, c.before, c.after)
		if got.Code != impl.OK {
			t.Fatalf("of %+v: %+v", c, got)
		}
		checkEachOnce(t, c.list, got)
		told, leftOver = told+len(got.Events), leftOver+len(got.Watches)
		for _, w := range got.Watches {
			if lookOf(c.before, w.Path) != lookOf(c.after, w.Path) {
				t.Fatalf("from %+v to %+v: %+v is not told", c.before, c.after, w)
			}
		}
		for _, e := range got.Events {
			old, now := lookOf(c.before, e.Path), lookOf(c.after, e.Path)
			want := int64(impl.EventTurned)
			switch {
			case old[0] == 0:
				want = impl.EventMade
			case now[0] == 0:
				want = impl.EventGone
			}
			if old == now || e.Kind != want || impl.ChangeOf(c.before, c.after, e.Path) != valueOf(want) {
				t.Fatalf("from %+v to %+v: %+v", c.before, c.after, e)
			}
		}
		// Who was told is told no more; who was not is told no more either, of the same.
		if again := impl.FireWatches(got.Watches, c.before, c.after); !sameWatched(again, left(got.Watches...)) {
			t.Fatalf("of %+v: once more %+v", c, again)
		}
	}
	if told < 2000 || leftOver < 2000 {
		t.Errorf("only %d were told, %d were left", told, leftOver)
	}
}

// Promise 8: between a tree and itself nothing turned.
func TestATreeAndItselfTellNothing(t *testing.T) {
	r := rand.New(rand.NewPCG(37, 37))
	for range 1500 {
		c := drawnFine(r)
		for _, nodes := range [][]impl.Znode{c.before, c.after} {
			if got := impl.FireWatches(c.list, nodes, ownNodes(nodes)); !sameWatched(got, left(c.list...)) {
				t.Fatalf("of %+v and %+v: %+v", c.list, nodes, got)
			}
		}
	}
}

// Promise 8: in whatever is done a watch is told at most once, of the first turn alone; who is left saw none.
func TestNobodyIsToldTwice(t *testing.T) {
	told, leftOver, turnedAgain := 0, 0, 0
	for seed := range uint64(150) {
		r := rand.New(rand.NewPCG(seed, 38))
		asks := drawnStory(r, drawn(r, []int{5, 20, 40}))
		trees := [][]impl.Znode{impl.NewState(0).State.Nodes}
		for i := range asks {
			trees = append(trees, impl.RunRequests(asks[:i+1]).State.Nodes)
		}
		list := drawnWatches(r, drawn(r, []int{1, 10, 20}), pathsOf(trees...))
		got := impl.RunWatched(asks, list)
		if got.Code != impl.OK {
			t.Fatalf("of %+v: %+v", asks, got)
		}
		checkEachOnce(t, list, got)
		told, leftOver = told+len(got.Events), leftOver+len(got.Watches)
		for _, w := range got.Watches {
			for _, nodes := range trees {
				if lookOf(nodes, w.Path) != lookOf(trees[0], w.Path) {
					t.Fatalf("of %+v: %+v is not told", asks, w)
				}
			}
		}
		for _, e := range got.Events {
			turns := turnsAt(trees, e.Path)
			if len(turns) == 0 || impl.ChangeOf(trees[turns[0]], trees[turns[0]+1], e.Path) != valueOf(e.Kind) {
				t.Fatalf("of %+v: %+v, and it turned at %v", asks, e, turns)
			}
			if len(turns) > 1 {
				turnedAgain++
			}
		}
	}
	if told < 300 || leftOver < 300 || turnedAgain < 100 {
		t.Errorf("only %d were told, %d were left, %d turned again", told, leftOver, turnedAgain)
	}
}

// turnsAt are the places of the requests by which a path turned.
func turnsAt(trees [][]impl.Znode, path string) []int {
	var turns []int
	for i := 1; i < len(trees); i++ {
		if lookOf(trees[i-1], path) != lookOf(trees[i], path) {
			turns = append(turns, i-1)
		}
	}
	return turns
}

// Promise 8: a run tells what its first requests tell, and then what the others do to those that are left.
func TestRunWatchedGoesOn(t *testing.T) {
	for seed := range uint64(60) {
		r := rand.New(rand.NewPCG(seed, 39))
		asks := drawnStory(r, drawn(r, []int{1, 5, 20, 40}))
		list := drawnWatches(r, 20, pathsOf(modelTrees(asks)...))
		before := impl.WatchResult{Watches: list}
		ahead := impl.NewState(0).State
		for i, ask := range asks {
			behind := impl.ApplyRequest(ahead, ask).State
			fired := impl.FireWatches(before.Watches, ahead.Nodes, behind.Nodes)
			fired.Events = slices.Concat(before.Events, fired.Events)
			if got := impl.RunWatched(asks[:i+1], list); !sameWatched(got, fired) {
				t.Fatalf("of %+v: %+v, want %+v", asks[:i+1], got, fired)
			}
			before, ahead = fired, behind
		}
	}
}

// Watches that are added one by one stand as they were added, and none stands twice.
func TestAddedWatchesStandInOrder(t *testing.T) {
	for seed := range uint64(200) {
		r := rand.New(rand.NewPCG(seed, 40))
		var list []impl.Watch
		for range 60 {
			w := drawnWatches(r, 1, []string{"/a", "/b"})[0]
			got := impl.AddWatch(list, w)
			want := left(append(slices.Clone(list), w)...)
			switch {
			case slices.Contains(list, w):
				want = left(list...)
			case len(list) == 20:
				want = noWatches(impl.ErrMany)
			}
			if !sameWatched(got, want) || got.Code == impl.OK && impl.WatchesFault(got.Watches) != impl.OK {
				t.Fatalf("%+v to %+v: %+v, want %+v", w, list, got, want)
			}
			if got.Code == impl.OK {
				list = got.Watches
			}
		}
	}
}

// Promise 1: every argument has an answer, however long a list is or how odd its numbers are.
func TestEveryWatchIsAnswered(t *testing.T) {
	far := []int64{math.MinInt64, -1, 0, 1, 9, 10, math.MaxInt64}
	texts := []string{"", "/", "/a", "\xff", "/\x00", strings.Repeat("/", 1<<16), strings.Repeat("a", 1<<16), longPath}
	trees := [][]impl.Znode{nil, {}, treeOf("/a"), make([]impl.Znode, 1<<12), wideTree(20)}
	for _, n := range far {
		for _, text := range texts {
			odd := on(n, text)
			lists := [][]impl.Watch{nil, {}, {odd}, {on(1, "/a"), odd}, slices.Repeat(watching(odd), 20), make([]impl.Watch, 1<<12)}
			stories := [][]impl.Request{nil, oneByOne(3), {asked(n, 1, n, getOf(text))}, make([]impl.Request, 1<<10)}
			for i := range 60 {
				c := watchCall{list: lists[i%len(lists)], one: odd, before: trees[i%len(trees)], after: trees[i/5%len(trees)], path: text, event: impl.Event{Client: n, Path: text, Kind: far[i%len(far)]}, story: stories[i/3%len(stories)]}
				if got, want := programWatches(c), modelWatches(c); !sameWatchAnswers(got, want) {
					t.Fatalf("of %d, %.20q and %d: %+v, want %+v", n, text, i, got, want)
				}
			}
		}
	}
}

// Promise 1: an answer hangs on the arguments alone, so it is the same in whatever order it is asked.
func TestWatchAnswersHangOnArgumentsAlone(t *testing.T) {
	r := rand.New(rand.NewPCG(41, 41))
	checkAgain(t, drawnMany(r, 300, drawnWatchCall), programWatches, sameWatchAnswers)
}

// ownWatches lays watches where nothing else lies: their texts are new, and room is left behind them for whoever writes there.
func ownWatches(list []impl.Watch) []impl.Watch {
	own := roomy(list)
	for i := range own {
		own[i].Path = strings.Clone(own[i].Path)
	}
	return own
}

// drawnOwnWatchCall draws a call of which nothing lies where anything else does.
func drawnOwnWatchCall(r *rand.Rand) watchCall {
	c := drawnWatchCall(r)
	c.list, c.before, c.after, c.story = ownWatches(c.list), ownNodes(c.before), ownNodes(c.after), ownRequests(c.story)
	c.one.Path, c.path, c.event.Path = strings.Clone(c.one.Path), strings.Clone(c.path), strings.Clone(c.event.Path)
	return c
}

func textsOfWatches(list []impl.Watch) []string {
	var texts []string
	for _, w := range list {
		texts = append(texts, w.Path)
	}
	return texts
}

// handedTexts are all texts that a call holds.
func handedTexts(c watchCall) []string {
	texts := slices.Concat(textsOfWatches(c.list), textsIn(c.before), textsIn(c.after), []string{c.one.Path, c.path, c.event.Path})
	for _, ask := range c.story {
		texts = append(texts, textsOfOps(ask.Ops)...)
	}
	return texts
}

// apart tells whether no two of these texts lie in one place.
func apart(texts []string) bool {
	for i, text := range texts {
		if anyShared(texts[:i], []string{text}) {
			return false
		}
	}
	return true
}

// checkNewMemory asks that one answer shares nothing with what was handed in, nor its lists with each other.
func checkNewMemory(t *testing.T, c watchCall, got impl.WatchResult) {
	t.Helper()
	if sharesRoom(got.Watches, c.list) || sharesRoom(got.Events, c.list) || sharesRoom(got.Watches, got.Events) {
		t.Fatalf("of %+v: %+v shares its lists", c, got)
	}
	for _, nodes := range [][]impl.Znode{c.before, c.after} {
		if sharesRoom(got.Watches, nodes) || sharesRoom(got.Events, nodes) {
			t.Fatalf("of %+v: %+v shares its lists with a tree", c, got)
		}
	}
	texts := slices.Concat(textsOfWatches(got.Watches), textsOfWatches(watchesOf(got.Events)))
	if anyShared(handedTexts(c), texts) || !apart(texts) {
		t.Fatalf("of %+v: %+v shares its texts", c, got)
	}
}

// Promise 1: what is answered shares no memory with what is handed in, nor two lists of one answer with each other.
func TestWatchAnswersAreNewMemory(t *testing.T) {
	r := rand.New(rand.NewPCG(42, 42))
	for range 1200 {
		c := drawnOwnWatchCall(r)
		a := programWatches(c)
		for _, got := range a.results() {
			checkNewMemory(t, c, got)
		}
		if anyShared(handedTexts(c), []string{a.text.Text}) {
			t.Fatalf("of %+v: %q is shared", c.event, a.text.Text)
		}
		again := programWatches(c)
		for _, got := range a.results() {
			clear(got.Watches[:cap(got.Watches)])
			clear(got.Events[:cap(got.Events)])
		}
		if want := modelWatches(c); !sameWatchAnswers(again, want) {
			t.Fatalf("of %+v: two answers share their lists", c)
		}
	}
}

// Promise 1: also where the watches that are handed in, and the nodes, have one text among them.
func TestWatchAnswersShareNoTextAmongThem(t *testing.T) {
	one := strings.Clone("/a")
	shared := watching(on(1, one), on(2, one), on(3, one+"/b"), on(3, one))
	c := watchCall{list: shared, one: on(4, one), before: treeOf(one), after: treeOf(), path: one, event: madeFor(1, one), story: story(ops(create(one, 5)))}
	for _, after := range [][]impl.Znode{treeOf(), treeOf(one)} {
		c.after = after
		for _, got := range programWatches(c).results() {
			checkNewMemory(t, c, got)
		}
	}
}

// Promise 1: no call changes the watches, the nodes or the requests that are handed in, nor what lies behind them.
func TestWatchArgumentsStayAsTheyAre(t *testing.T) {
	r := rand.New(rand.NewPCG(43, 43))
	for range 1200 {
		c := drawnOwnWatchCall(r)
		list, before, after := c.list[:cap(c.list)], c.before[:cap(c.before)], c.after[:cap(c.after)]
		oldList, oldBefore, oldAfter, oldStory := ownWatches(list), ownNodes(before), ownNodes(after), ownRequests(wholeRequests(c.story))
		programWatches(c)
		if !slices.Equal(list, oldList) || !slices.Equal(before, oldBefore) || !slices.Equal(after, oldAfter) || !slices.EqualFunc(wholeRequests(c.story), oldStory, modelSame) {
			t.Fatalf("changed: %+v", c)
		}
	}
}
