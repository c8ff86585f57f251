package tests

import (
	"math"
	"math/rand/v2"
	"slices"
	"strings"
	"testing"
	"unsafe"

	"loop.example/g00369/impl"
)

// treeOf is the top and, behind it, nodes of these paths, all else of them zero.
func treeOf(paths ...string) []impl.Znode {
	nodes := []impl.Znode{{Path: "/"}}
	for _, path := range paths {
		nodes = append(nodes, impl.Znode{Path: path})
	}
	return nodes
}

// treeWith is treeOf with one node in place of that of its path.
func treeWith(z impl.Znode, paths ...string) []impl.Znode {
	nodes := treeOf(paths...)
	for i := range nodes {
		if nodes[i].Path == z.Path {
			nodes[i] = z
		}
	}
	return nodes
}

// wideTree has the top and kids of it, as many nodes in all as is told.
func wideTree(many int) []impl.Znode {
	nodes := treeOf()
	for i := range many - 1 {
		nodes = append(nodes, impl.Znode{Path: "/k" + string([]byte{byte('a' + i)})})
	}
	return nodes
}

func codeOf(code int64) impl.ZResult {
	return impl.ZResult{Code: code}
}

type faultCase struct {
	name  string
	nodes []impl.Znode
	want  int64
}

func checkTreeFaults(t *testing.T, cases []faultCase) {
	for _, c := range cases {
		if got := impl.TreeFault(c.nodes); got != c.want {
			t.Errorf("%s: TreeFault %d, want %d", c.name, got, c.want)
		}
		checkTreeText(t, c.name, c.nodes, c.want)
	}
}

func TestTreeBounds(t *testing.T) {
	if impl.MaxNodes != 20 || impl.MaxVersion != 999 {
		t.Errorf("MaxNodes %d, MaxVersion %d, want 20 and 999", impl.MaxNodes, impl.MaxVersion)
	}
}

func TestTreeFaultCountsNodes(t *testing.T) {
	checkTreeFaults(t, []faultCase{
		{"nil", nil, impl.ErrNone},
		{"no nodes", []impl.Znode{}, impl.ErrNone},
		{"the top", treeOf(), impl.OK},
		{"20 nodes", wideTree(20), impl.OK},
		{"21 nodes", wideTree(21), impl.ErrMany},
		{"21 nodes that are none", make([]impl.Znode, 21), impl.ErrMany},
		{"20 nodes that are none", make([]impl.Znode, 20), impl.ErrText},
	})
}

func TestTreeFaultAsksNumbers(t *testing.T) {
	cases := []struct {
		z    impl.Znode
		want int64
	}{
		{impl.Znode{Data: -1}, impl.ErrRange},
		{impl.Znode{Data: 0}, impl.OK},
		{impl.Znode{Data: 9999}, impl.OK},
		{impl.Znode{Data: 10000}, impl.ErrRange},
		{impl.Znode{Version: -1}, impl.ErrRange},
		{impl.Znode{Version: 999}, impl.OK},
		{impl.Znode{Version: 1000}, impl.ErrRange},
		{impl.Znode{Owner: -1}, impl.ErrRange},
		{impl.Znode{Owner: 1}, impl.OK},
		{impl.Znode{Owner: 9}, impl.OK},
		{impl.Znode{Owner: 10}, impl.ErrRange},
		{impl.Znode{Next: -1}, impl.ErrRange},
		{impl.Znode{Next: 100}, impl.OK},
		{impl.Znode{Next: 101}, impl.ErrRange},
		{impl.Znode{Data: math.MinInt64}, impl.ErrRange},
		{impl.Znode{Data: math.MaxInt64}, impl.ErrRange},
		{impl.Znode{Version: math.MinInt64}, impl.ErrRange},
		{impl.Znode{Owner: math.MaxInt64}, impl.ErrRange},
		{impl.Znode{Next: math.MaxInt64}, impl.ErrRange},
	}
	for _, c := range cases {
		c.z.Path = "/b"
		if got := impl.TreeFault(treeWith(c.z, "/a", "/b", "/c")); got != c.want {
			t.Errorf("with %v: TreeFault %d, want %d", c.z, got, c.want)
		}
		c.z.Path = "/"
		if got := impl.TreeFault(treeWith(c.z)); c.z.Owner == 0 && got != c.want {
			t.Errorf("with the top %v: TreeFault %d, want %d", c.z, got, c.want)
		}
	}
}

func TestTreeFaultAsksPathsAndParents(t *testing.T) {
	checkTreeFaults(t, []faultCase{
		{"as bytes: a slash ahead of a digit ahead of a letter", treeOf("/a", "/a/z", "/a0", "/aa", "/b"), impl.OK},
		{"four names", treeOf("/a", "/a/b", "/a/b/c", "/a/b/c/d"), impl.OK},
		{"it falls", treeOf("/b", "/a"), impl.ErrForm},
		{"a digit behind a letter", treeOf("/aa", "/a0"), impl.ErrForm},
		{"one behind its longer neighbour", treeOf("/a", "/a0", "/a/b"), impl.ErrForm},
		{"twice", treeOf("/a", "/a"), impl.ErrForm},
		{"the top twice", treeOf("/"), impl.ErrForm},
		{"the top behind", []impl.Znode{{Path: "/a"}, {Path: "/"}}, impl.ErrForm},
		{"an empty path", treeOf(""), impl.ErrText},
		{"no path", treeOf("/a", "/a/"), impl.ErrText},
		{"five names", treeOf("/a/b/c/d/e"), impl.ErrMany},
		{"25 bytes", treeOf("/abcdefgh/abcdefgh/abcdef"), impl.ErrMany},
		{"no top", []impl.Znode{{Path: "/a"}}, impl.ErrNone},
		{"no parent", treeOf("/a/b"), impl.ErrNone},
		{"no parent, but its parent", treeOf("/a", "/a/b/c"), impl.ErrNone},
		{"a neighbour that begins alike is no parent", treeOf("/a", "/ab/c"), impl.ErrNone},
	})
}

func TestTreeFaultAsksOwners(t *testing.T) {
	checkTreeFaults(t, []faultCase{
		{"at the top alone", treeWith(impl.Znode{Path: "/", Owner: 1}), impl.ErrForm},
		{"at the top with kids", treeWith(impl.Znode{Path: "/", Owner: 9}, "/a"), impl.ErrForm},
		{"at one with kids", treeWith(impl.Znode{Path: "/a", Owner: 1}, "/a", "/a/b"), impl.ErrForm},
		{"at one with kids further down", treeWith(impl.Znode{Path: "/a/b", Owner: 1}, "/a", "/a/b", "/a/b/c"), impl.ErrForm},
		{"at one without", treeWith(impl.Znode{Path: "/a", Owner: 1}, "/a", "/b", "/b/c"), impl.OK},
		{"at one without, ahead of one that begins alike", treeWith(impl.Znode{Path: "/a", Owner: 9}, "/a", "/ab", "/ab/c"), impl.OK},
		{"at a kid without kids", treeWith(impl.Znode{Path: "/a/b", Owner: 9}, "/a", "/a/b", "/a/c"), impl.OK},
	})
}

func TestTreeFaultTellsTheFirstCode(t *testing.T) {
	checkTreeFaults(t, []faultCase{
		{"of one node: no path ahead of wrong Data", []impl.Znode{{Path: "/"}, {Path: "x", Data: -1}}, impl.ErrText},
		{"of one node: too long ahead of wrong Data", []impl.Znode{{Path: "/"}, {Path: "/a/b/c/d/e", Data: -1}}, impl.ErrMany},
		{"of one node: wrong Data ahead of a fall", []impl.Znode{{Path: "/"}, {Path: "/b"}, {Path: "/a", Data: -1}}, impl.ErrRange},
		{"of one node: no path ahead of a fall", []impl.Znode{{Path: "/"}, {Path: "/b"}, {Path: ""}}, impl.ErrText},
		{"of two nodes: a fall ahead of no path", []impl.Znode{{Path: "/"}, {Path: "/b"}, {Path: "/a"}, {Path: "x"}}, impl.ErrForm},
		{"of two nodes: wrong Data ahead of no path", []impl.Znode{{Path: "/"}, {Path: "/b", Data: -1}, {Path: "x"}}, impl.ErrRange},
		{"of two nodes: no path ahead of wrong Data", []impl.Znode{{Path: "/"}, {Path: "x"}, {Path: "/b", Data: -1}}, impl.ErrText},
		{"of two nodes: a fall ahead of a wrong Version", []impl.Znode{{Path: "/"}, {Path: "/b"}, {Path: "/a"}, {Path: "/c", Version: -1}}, impl.ErrForm},
		{"of two nodes: a wrong Next ahead of a fall", []impl.Znode{{Path: "/"}, {Path: "/b", Next: 101}, {Path: "/a"}}, impl.ErrRange},
		{"a wrong last node ahead of a missing top", []impl.Znode{{Path: "/a"}, {Path: "/b", Owner: 10}}, impl.ErrRange},
		{"a fall ahead of a missing parent", treeOf("/a/b", "/a"), impl.ErrForm},
		{"a missing parent behind ahead of an Owner", []impl.Znode{{Path: "/", Owner: 1}, {Path: "/a"}, {Path: "/b/c"}}, impl.ErrNone},
		{"a missing top ahead of an Owner", []impl.Znode{{Path: "/a", Owner: 1}, {Path: "/a/b"}}, impl.ErrNone},
		{"too many ahead of all", append(wideTree(20), impl.Znode{Path: "x", Data: -1}), impl.ErrMany},
	})
}

func TestNewTree(t *testing.T) {
	for _, data := range []int64{0, 1, 9999} {
		want := impl.ZResult{Nodes: []impl.Znode{{Path: "/", Data: data}}}
		if got := impl.NewTree(data); !sameZ(got, want) || impl.TreeFault(got.Nodes) != impl.OK {
			t.Errorf("NewTree(%d) = %v, want %v", data, got, want)
		}
	}
	for _, data := range []int64{-1, 10000, math.MinInt64, math.MaxInt64} {
		if got := impl.NewTree(data); !sameZ(got, codeOf(impl.ErrRange)) {
			t.Errorf("NewTree(%d) = %v, want ErrRange alone", data, got)
		}
	}
}

func TestWhatIsAskedFirst(t *testing.T) {
	wrong := treeOf("/b", "/a")
	for _, c := range []struct {
		nodes []impl.Znode
		path  string
		want  int64
	}{
		{wrong, "/a", impl.ErrForm},
		{wrong, "x", impl.ErrForm},
		{nil, "/", impl.ErrNone},
		{nil, "/a/b/c/d/e", impl.ErrNone},
		{wideTree(21), "", impl.ErrMany},
		{treeOf("/a"), "", impl.ErrText},
		{treeOf("/a"), "a", impl.ErrText},
		{treeOf("/a"), "/a/", impl.ErrText},
		{treeOf("/a"), "/a/b/c/d/e", impl.ErrMany},
		{treeOf("/a"), "/abcdefgh/abcdefgh/abcdef", impl.ErrMany},
	} {
		// Data, Owner and version are wrong too: they are asked behind the tree and the path.
		got := programTree(c.nodes, treeCall{path: c.path, data: -1, owner: 10, version: 7})
		for i, z := range []impl.ZResult{got.created, got.deleted, got.set, got.got} {
			if !sameZ(z, codeOf(c.want)) {
				t.Errorf("%d of %v and %q: %v, want the code %d alone", i, c.nodes, c.path, z, c.want)
			}
		}
		if !sameTexts(got.kids, impl.TextsResult{Code: c.want}) {
			t.Errorf("KidsZ of %v and %q: %v, want the code %d alone", c.nodes, c.path, got.kids, c.want)
		}
	}
}

func TestCreateZ(t *testing.T) {
	owned := treeWith(impl.Znode{Path: "/a", Owner: 3}, "/a", "/b")
	kid := func(path string) impl.Znode { return impl.Znode{Path: path, Data: 7, Owner: 2} }
	cases := []struct {
		name  string
		nodes []impl.Znode
		path  string
		data  int64
		owner int64
		want  impl.ZResult
	}{
		{"the first kid", treeOf(), "/a", 7, 2, impl.ZResult{Path: "/a", Nodes: []impl.Znode{{Path: "/"}, kid("/a")}}},
		{"between what begins alike", treeOf("/a", "/a0", "/b"), "/a/z", 7, 2, impl.ZResult{Path: "/a/z", Nodes: []impl.Znode{{Path: "/"}, {Path: "/a"}, kid("/a/z"), {Path: "/a0"}, {Path: "/b"}}}},
		{"behind a neighbour's kid", treeOf("/a", "/a/z", "/b"), "/a0", 7, 2, impl.ZResult{Path: "/a0", Nodes: []impl.Znode{{Path: "/"}, {Path: "/a"}, {Path: "/a/z"}, kid("/a0"), {Path: "/b"}}}},
		{"behind all", treeOf("/a", "/a/z"), "/b", 7, 2, impl.ZResult{Path: "/b", Nodes: []impl.Znode{{Path: "/"}, {Path: "/a"}, {Path: "/a/z"}, kid("/b")}}},
		{"ahead of all but the top", treeOf("/b"), "/a", 7, 2, impl.ZResult{Path: "/a", Nodes: []impl.Znode{{Path: "/"}, kid("/a"), {Path: "/b"}}}},
		{"four deep", treeOf("/a", "/a/b", "/a/b/c"), "/a/b/c/d", 7, 2, impl.ZResult{Path: "/a/b/c/d", Nodes: []impl.Znode{{Path: "/"}, {Path: "/a"}, {Path: "/a/b"}, {Path: "/a/b/c"}, kid("/a/b/c/d")}}},
		{"the 20th node", wideTree(19), "/z", 7, 2, impl.ZResult{Path: "/z", Nodes: append(wideTree(19), kid("/z"))}},
		{"the most of Data and Owner", treeOf(), "/a", 9999, 9, impl.ZResult{Path: "/a", Nodes: []impl.Znode{{Path: "/"}, {Path: "/a", Data: 9999, Owner: 9}}}},
		{"the least of Data and Owner", treeOf(), "/a", 0, 0, impl.ZResult{Path: "/a", Nodes: treeOf("/a")}},
		{"Data too low", treeOf(), "/a", -1, 0, codeOf(impl.ErrRange)},
		{"Data too high", treeOf(), "/a", 10000, 0, codeOf(impl.ErrRange)},
		{"Owner too low", treeOf(), "/a", 0, -1, codeOf(impl.ErrRange)},
		{"Owner too high", treeOf(), "/a", 0, 10, codeOf(impl.ErrRange)},
		{"the top", treeOf(), "/", 0, 0, codeOf(impl.ErrForm)},
		{"wrong Data ahead of the top", treeOf(), "/", -1, 0, codeOf(impl.ErrRange)},
		{"wrong Owner ahead of a missing parent", treeOf(), "/a/b", 0, 10, codeOf(impl.ErrRange)},
		{"no parent", treeOf("/b"), "/a/b", 0, 0, codeOf(impl.ErrNone)},
		{"no parent, but one that begins alike", treeOf("/a"), "/ab/c", 0, 0, codeOf(impl.ErrNone)},
		{"no parent, but its parent", treeOf("/a"), "/a/b/c", 0, 0, codeOf(impl.ErrNone)},
		{"a parent with an Owner", owned, "/a/b", 0, 0, codeOf(impl.ErrState)},
		{"beside one with an Owner", owned, "/c", 7, 2, impl.ZResult{Path: "/c", Nodes: append(slices.Clone(owned), kid("/c"))}},
		{"it is there", treeOf("/a"), "/a", 0, 0, codeOf(impl.ErrTaken)},
		{"it is there, with an Owner", owned, "/a", 0, 0, codeOf(impl.ErrTaken)},
		{"full", wideTree(20), "/z", 0, 0, codeOf(impl.ErrMany)},
		{"full, and it is there", wideTree(20), "/ka", 0, 0, codeOf(impl.ErrTaken)},
		{"full, and no parent", wideTree(20), "/z/a", 0, 0, codeOf(impl.ErrNone)},
	}
	for _, c := range cases {
		if got := impl.CreateZ(c.nodes, c.path, c.data, c.owner, false); !sameZ(got, c.want) {
			t.Errorf("%s: %v, want %v", c.name, got, c.want)
		}
	}
}

func TestCreateZWithNumber(t *testing.T) {
	counted := func(next int64, paths ...string) []impl.Znode {
		return treeWith(impl.Znode{Path: "/", Next: next}, paths...)
	}
	made := func(path string, next int64) impl.ZResult {
		return impl.ZResult{Path: path, Nodes: counted(next, path)}
	}
	long := treeOf("/abcdefgh", "/abcdefgh/abcdefgh")
	cases := []struct {
		name  string
		nodes []impl.Znode
		path  string
		want  impl.ZResult
	}{
		{"Next 0", counted(0), "/q", made("/q00", 1)},
		{"Next 9", counted(9), "/q", made("/q09", 10)},
		{"Next 10", counted(10), "/q", made("/q10", 11)},
		{"Next 99", counted(99), "/q", made("/q99", 100)},
		{"Next 100", counted(100), "/q", codeOf(impl.ErrRange)},
		{"a name of 6 bytes", counted(5), "/abcdef", made("/abcdef05", 6)},
		{"a name of 7 bytes", counted(5), "/abcdefg", codeOf(impl.ErrText)},
		{"a name of 8 bytes", counted(5), "/abcdefgh", codeOf(impl.ErrText)},
		{"a name of 7 bytes, Next 100", counted(100), "/abcdefg", codeOf(impl.ErrRange)},
		{"a path of 24 bytes with its number", long, "/abcdefgh/abcdefgh/abc", impl.ZResult{Path: "/abcdefgh/abcdefgh/abc00", Nodes: append(treeWith(impl.Znode{Path: "/abcdefgh/abcdefgh", Next: 1}, "/abcdefgh", "/abcdefgh/abcdefgh"), impl.Znode{Path: "/abcdefgh/abcdefgh/abc00"})}},
		{"a path of 25 bytes with its number", long, "/abcdefgh/abcdefgh/abcd", codeOf(impl.ErrMany)},
		{"the numbered path is there", counted(3, "/q03"), "/q", codeOf(impl.ErrTaken)},
		{"only the path without number is there", counted(3, "/q"), "/q", impl.ZResult{Path: "/q03", Nodes: counted(4, "/q", "/q03")}},
		{"only the number ahead is there", counted(3, "/q02"), "/q", impl.ZResult{Path: "/q03", Nodes: counted(4, "/q02", "/q03")}},
		{"full", wideTree(20), "/q", codeOf(impl.ErrMany)},
		{"full, a name of 7 bytes", wideTree(20), "/abcdefg", codeOf(impl.ErrText)},
		{"full, and it is there", append(wideTree(19), impl.Znode{Path: "/q00"}), "/q", codeOf(impl.ErrTaken)},
		{"the top", counted(0), "/", codeOf(impl.ErrForm)},
		{"no parent", counted(0), "/a/q", codeOf(impl.ErrNone)},
		{"a parent with an Owner and Next 100", treeWith(impl.Znode{Path: "/a", Owner: 1, Next: 100}, "/a"), "/a/q", codeOf(impl.ErrState)},
	}
	for _, c := range cases {
		if got := impl.CreateZ(c.nodes, c.path, 0, 0, true); !sameZ(got, c.want) {
			t.Errorf("%s: %v, want %v", c.name, got, c.want)
		}
	}
}

func TestNextCountsForItsParentAlone(t *testing.T) {
	nodes := treeOf("/a", "/b")
	for i, want := range []string{"/a/q00", "/b/q00", "/a/x01", "/c00", "/a/q02", "/b/q01"} {
		name := want[:len(want)-2]
		made := impl.CreateZ(nodes, name, 0, 0, true)
		if made.Code != impl.OK || made.Path != want {
			t.Fatalf("%d: %s with a number: %v, want %s", i, name, made, want)
		}
		nodes = made.Nodes
	}
	// A kid without a number counts for nothing, nor does one that is gone.
	for _, path := range []string{"/a", "/b"} {
		before := impl.GetZ(nodes, path).Nodes[0].Next
		nodes = impl.CreateZ(nodes, path+"/w", 0, 0, false).Nodes
		nodes = impl.DeleteZ(nodes, path+"/q00", -1).Nodes
		if after := impl.GetZ(nodes, path).Nodes[0].Next; after != before {
			t.Errorf("Next of %s went from %d to %d", path, before, after)
		}
	}
	if made := impl.CreateZ(nodes, "/a/q", 0, 0, true); made.Path != "/a/q03" {
		t.Errorf("behind a deletion: %v, want /a/q03", made)
	}
}

func TestDeleteZ(t *testing.T) {
	third := impl.Znode{Path: "/b", Data: 4, Version: 3, Owner: 2, Next: 5}
	nodes := treeWith(third, "/a", "/a/b", "/a0", "/b", "/c")
	without := treeOf("/a", "/a/b", "/a0", "/c")
	cases := []struct {
		name    string
		path    string
		version int64
		want    impl.ZResult
	}{
		{"of any version", "/b", -1, impl.ZResult{Nodes: without}},
		{"of its version", "/b", 3, impl.ZResult{Nodes: without}},
		{"of a lower version", "/b", 2, codeOf(impl.ErrVersion)},
		{"of a higher version", "/b", 4, codeOf(impl.ErrVersion)},
		{"of version 0 that is not its own", "/b", 0, codeOf(impl.ErrVersion)},
		{"of a version below all", "/b", -2, codeOf(impl.ErrVersion)},
		{"of the least number", "/b", math.MinInt64, codeOf(impl.ErrVersion)},
		{"of the most", "/b", math.MaxInt64, codeOf(impl.ErrVersion)},
		{"a leaf further down", "/a/b", 0, impl.ZResult{Nodes: treeWith(third, "/a", "/a0", "/b", "/c")}},
		{"the last one", "/c", -1, impl.ZResult{Nodes: treeWith(third, "/a", "/a/b", "/a0", "/b")}},
		{"with kids", "/a", -1, codeOf(impl.ErrState)},
		{"with kids, of another version", "/a", 1, codeOf(impl.ErrVersion)},
		{"the top", "/", -1, codeOf(impl.ErrForm)},
		{"the top, of another version", "/", 5, codeOf(impl.ErrForm)},
		{"not there", "/d", -1, codeOf(impl.ErrNone)},
		{"not there, below one that is", "/b/x", -1, codeOf(impl.ErrNone)},
		{"not there, of a wrong version", "/d", -5, codeOf(impl.ErrNone)},
		{"not there, but one begins alike", "/a/b0", -1, codeOf(impl.ErrNone)},
	}
	for _, c := range cases {
		if got := impl.DeleteZ(nodes, c.path, c.version); !sameZ(got, c.want) {
			t.Errorf("%s: %v, want %v", c.name, got, c.want)
		}
	}
	alike := treeOf("/a", "/a0", "/ab", "/ab/c")
	if got, want := impl.DeleteZ(alike, "/a", 0), treeOf("/a0", "/ab", "/ab/c"); !sameZ(got, impl.ZResult{Nodes: want}) {
		t.Errorf("one that others only begin like: %v, want %v", got, want)
	}
	if got := impl.DeleteZ(treeOf(), "/", -1); !sameZ(got, codeOf(impl.ErrForm)) {
		t.Errorf("the top alone: %v", got)
	}
}

func TestSetZ(t *testing.T) {
	old := impl.Znode{Path: "/b", Data: 4, Version: 3, Owner: 2, Next: 5}
	last := impl.Znode{Path: "/b", Data: 4, Version: 998, Next: 100}
	full := impl.Znode{Path: "/b", Data: 4, Version: 999}
	around := []string{"/a", "/a/b", "/b", "/c"}
	changed := func(data int64, version int64) impl.ZResult {
		return impl.ZResult{Nodes: treeWith(impl.Znode{Path: "/b", Data: data, Version: version, Owner: 2, Next: 5}, around...)}
	}
	cases := []struct {
		name    string
		nodes   []impl.Znode
		path    string
		data    int64
		version int64
		want    impl.ZResult
	}{
		{"of any version", treeWith(old, around...), "/b", 9, -1, changed(9, 4)},
		{"of its version", treeWith(old, around...), "/b", 9, 3, changed(9, 4)},
		{"to what it is", treeWith(old, around...), "/b", 4, 3, changed(4, 4)},
		{"to the least", treeWith(old, around...), "/b", 0, 3, changed(0, 4)},
		{"to the most", treeWith(old, around...), "/b", 9999, 3, changed(9999, 4)},
		{"below the least", treeWith(old, around...), "/b", -1, 3, codeOf(impl.ErrRange)},
		{"above the most", treeWith(old, around...), "/b", 10000, 3, codeOf(impl.ErrRange)},
		{"of another version", treeWith(old, around...), "/b", 9, 4, codeOf(impl.ErrVersion)},
		{"of a version below all", treeWith(old, around...), "/b", 9, -2, codeOf(impl.ErrVersion)},
		{"not there", treeOf("/a"), "/b", 9, -1, codeOf(impl.ErrNone)},
		{"not there, of a wrong version", treeOf("/a"), "/b", 9, -2, codeOf(impl.ErrNone)},
		{"not there, with wrong data", treeOf("/a"), "/b", -1, -1, codeOf(impl.ErrRange)},
		{"Version 998", treeWith(last, around...), "/b", 9, 998, impl.ZResult{Nodes: treeWith(impl.Znode{Path: "/b", Data: 9, Version: 999, Next: 100}, around...)}},
		{"Version 999", treeWith(full, around...), "/b", 9, 999, codeOf(impl.ErrMany)},
		{"Version 999, any", treeWith(full, around...), "/b", 9, -1, codeOf(impl.ErrMany)},
		{"Version 999, of another version", treeWith(full, around...), "/b", 9, 998, codeOf(impl.ErrVersion)},
		{"Version 999, with wrong data", treeWith(full, around...), "/b", 10000, 999, codeOf(impl.ErrRange)},
		{"the top", treeOf("/a"), "/", 9, 0, impl.ZResult{Nodes: treeWith(impl.Znode{Path: "/", Data: 9, Version: 1}, "/a")}},
		{"one with kids", treeOf("/a", "/a/b"), "/a", 9, 0, impl.ZResult{Nodes: treeWith(impl.Znode{Path: "/a", Data: 9, Version: 1}, "/a", "/a/b")}},
		{"in a full tree", wideTree(20), "/", 9, 0, impl.ZResult{Nodes: append([]impl.Znode{{Path: "/", Data: 9, Version: 1}}, wideTree(20)[1:]...)}},
	}
	for _, c := range cases {
		if got := impl.SetZ(c.nodes, c.path, c.data, c.version); !sameZ(got, c.want) {
			t.Errorf("%s: %v, want %v", c.name, got, c.want)
		}
	}
}

func TestGetZAndKidsZ(t *testing.T) {
	leaf := impl.Znode{Path: "/a/z", Data: 4, Version: 3, Owner: 2, Next: 5}
	nodes := treeWith(leaf, "/a", "/a/b", "/a/b/c", "/a/b/c/d", "/a/z", "/a0", "/a0/x", "/ab", "/b")
	cases := []struct {
		path string
		got  impl.Znode
		kids []string
		want int64
	}{
		{"/", impl.Znode{Path: "/"}, []string{"a", "a0", "ab", "b"}, impl.OK},
		{"/a", impl.Znode{Path: "/a"}, []string{"b", "z"}, impl.OK},
		{"/a/b", impl.Znode{Path: "/a/b"}, []string{"c"}, impl.OK},
		{"/a/b/c/d", impl.Znode{Path: "/a/b/c/d"}, nil, impl.OK},
		{"/a/z", leaf, nil, impl.OK},
		{"/b", impl.Znode{Path: "/b"}, nil, impl.OK},
		{"/c", impl.Znode{}, nil, impl.ErrNone},
		{"/a/a", impl.Znode{}, nil, impl.ErrNone},
		{"/0", impl.Znode{}, nil, impl.ErrNone},
		{"/zzz", impl.Znode{}, nil, impl.ErrNone},
		{"", impl.Znode{}, nil, impl.ErrText},
		{"a", impl.Znode{}, nil, impl.ErrText},
		{"/a/", impl.Znode{}, nil, impl.ErrText},
		{"/a/b/c/d/e", impl.Znode{}, nil, impl.ErrMany},
	}
	for _, c := range cases {
		want := impl.ZResult{Code: c.want}
		if c.want == impl.OK {
			want.Nodes = []impl.Znode{c.got}
		}
		if got := impl.GetZ(nodes, c.path); !sameZ(got, want) {
			t.Errorf("GetZ of %q: %v, want %v", c.path, got, want)
		}
		if got := impl.KidsZ(nodes, c.path); !sameTexts(got, impl.TextsResult{Code: c.want, Texts: c.kids}) {
			t.Errorf("KidsZ of %q: %v, want %v and the code %d", c.path, got, c.kids, c.want)
		}
	}
	if got := impl.KidsZ(treeOf(), "/"); !sameTexts(got, impl.TextsResult{}) {
		t.Errorf("KidsZ of the top alone: %v", got)
	}
}

func TestSameTrees(t *testing.T) {
	z := impl.Znode{Path: "/b", Data: 4, Version: 3, Owner: 2, Next: 5}
	a := treeWith(z, "/a", "/b", "/c")
	if !impl.SameTrees(a, slices.Clone(a)) || !impl.SameTrees(a, a) {
		t.Errorf("a tree is not the same as its copy")
	}
	others := []impl.Znode{z, z, z, z, z}
	others[0].Path, others[1].Data, others[2].Version, others[3].Owner, others[4].Next = "/b0", 5, 4, 0, 6
	for i := range a {
		for _, other := range others {
			b, c := slices.Clone(a), slices.Clone(a)
			b[i], c[i] = other, z
			if impl.SameTrees(b, c) || impl.SameTrees(c, b) {
				t.Errorf("%v and %v are told to be the same", b, c)
			}
		}
	}
	cases := []struct {
		name string
		a    []impl.Znode
		b    []impl.Znode
		want bool
	}{
		{"shorter", a, a[:3], false},
		{"none", a, nil, false},
		{"none and the top", []impl.Znode{}, treeOf(), false},
		{"in another order", treeOf("/a", "/b"), treeOf("/b", "/a"), false},
		{"twice the same fault", treeOf("/b", "/a"), treeOf("/b", "/a"), true},
		{"twice no path", []impl.Znode{{Path: "x", Data: -1}}, []impl.Znode{{Path: "x", Data: -1}}, true},
		{"twice too many", wideTree(21), wideTree(21), true},
		{"two faults", []impl.Znode{{Path: "x", Data: -1}}, []impl.Znode{{Path: "x", Data: -2}}, false},
		{"nil and nil", nil, nil, true},
		{"nil and an empty list", nil, []impl.Znode{}, true},
		{"two empty lists", []impl.Znode{}, []impl.Znode{}, true},
	}
	for _, c := range cases {
		if impl.SameTrees(c.a, c.b) != c.want || impl.SameTrees(c.b, c.a) != c.want {
			t.Errorf("%s: %v and %v, want %v", c.name, c.a, c.b, c.want)
		}
	}
}

func TestTreesAreWhatTheModelTells(t *testing.T) {
	t.Parallel()
	r := rand.New(rand.NewPCG(2, 1))
	seen := map[int64]int{}
	for range 4000 {
		nodes := drawnTree(r)
		for range r.IntN(3) {
			nodes = spoilt(r, nodes)
		}
		for range 8 {
			c := drawnCall(r)
			got, want := programTree(nodes, c), modelTreeSays(nodes, c)
			if !sameAnswers(got, want) {
				t.Fatalf("of %v and %v:\n%v, want\n%v", nodes, c, got, want)
			}
			for _, z := range got.trees() {
				seen[z.Code]++
			}
		}
	}
	for code := int64(impl.OK); code <= impl.ErrState; code++ {
		if seen[code] < 20 {
			t.Errorf("the code %d was told only %d times", code, seen[code])
		}
	}
}

// walk leads a tree through many calls of the program alone, and shows each of them with the tree ahead of it.
func walk(seed uint64, look func(nodes []impl.Znode, c treeCall, a treeAnswers)) {
	r := rand.New(rand.NewPCG(seed, 3))
	nodes := impl.NewTree(0).Nodes
	for range 400 {
		c := drawnCall(r)
		a := programTree(nodes, c)
		look(nodes, c, a)
		nodes = grown(r, nodes, a)
	}
}

// but gives what is left of nodes without those of paths.
func but(nodes []impl.Znode, paths ...string) []impl.Znode {
	return slices.DeleteFunc(slices.Clone(nodes), func(z impl.Znode) bool { return slices.Contains(paths, z.Path) })
}

// Promise 3: what is made is there alone, under its parent, and all others stay.
func TestMadeIsThereAlone(t *testing.T) {
	made := 0
	for seed := range uint64(60) {
		walk(seed, func(nodes []impl.Znode, c treeCall, a treeAnswers) {
			if a.created.Code != impl.OK {
				return
			}
			made++
			after, path := a.created.Nodes, a.created.Path
			up := impl.ParentOf(path).Text
			if impl.GetZ(nodes, path).Code != impl.ErrNone || impl.TreeFault(after) != impl.OK || len(after) != len(nodes)+1 {
				t.Fatalf("%v in %v: %v", c, nodes, a.created)
			}
			if got := impl.GetZ(after, path); !sameZ(got, impl.ZResult{Nodes: []impl.Znode{{Path: path, Data: c.data, Owner: c.owner}}}) {
				t.Fatalf("%v in %v: made %v", c, nodes, got)
			}
			if !slices.Equal(but(after, path, up), but(nodes, up)) {
				t.Fatalf("%v in %v: others turned: %v", c, nodes, after)
			}
			parent := impl.GetZ(nodes, up).Nodes[0]
			if c.seq {
				parent.Next++
			}
			if got := impl.GetZ(after, up); !sameZ(got, impl.ZResult{Nodes: []impl.Znode{parent}}) {
				t.Fatalf("%v in %v: the parent is %v, want %v", c, nodes, got, parent)
			}
			kids := slices.Sorted(slices.Values(append(impl.KidsZ(nodes, up).Texts, impl.NameIn(path).Text)))
			if got := impl.KidsZ(after, up).Texts; !slices.Equal(got, kids) {
				t.Fatalf("%v in %v: kids %v, want %v", c, nodes, got, kids)
			}
			if c.seq && impl.CreateZ(after, path, 0, 0, false).Code != impl.ErrTaken || !c.seq && path != c.path {
				t.Fatalf("%v in %v: made at %q", c, nodes, path)
			}
		})
	}
	if made < 1000 {
		t.Errorf("only %d nodes were made", made)
	}
}

// Promise 3: a name with a number is never given twice by one parent, however many are deleted between.
func TestNumbersAreNeverGivenTwice(t *testing.T) {
	r := rand.New(rand.NewPCG(7, 7))
	nodes := treeOf("/a", "/b")
	given := map[string]int{}
	for many := 0; many < 200; {
		up := drawn(r, []string{"/a", "/b"})
		made := impl.CreateZ(nodes, up+"/"+drawn(r, []string{"q", "lock", "abcdef"}), 1, 0, true)
		switch made.Code {
		case impl.OK:
			many++
			number := up + made.Path[len(made.Path)-2:]
			if given[number]++; given[number] > 1 {
				t.Fatalf("%s gave a number twice", made.Path)
			}
			nodes = made.Nodes
		case impl.ErrRange:
			if impl.GetZ(nodes, up).Nodes[0].Next != 100 {
				t.Fatalf("%s has numbers left: %v", up, nodes)
			}
		}
		for _, z := range nodes[1:] {
			if impl.DeepIn(z.Path).Value == 2 && (len(nodes) > 15 || r.IntN(4) == 0) {
				nodes = impl.DeleteZ(nodes, z.Path, -1).Nodes
			}
		}
	}
	for _, up := range []string{"/a", "/b"} {
		for n := range 100 {
			if number := up + impl.SeqName("x", int64(n)).Text[1:]; given[number] != 1 {
				t.Errorf("%s was given %d times", number, given[number])
			}
		}
	}
}

// Promise 3: what is set is got, of the next version, and nothing else turns.
func TestSetIsGot(t *testing.T) {
	set := 0
	for seed := range uint64(60) {
		walk(seed, func(nodes []impl.Znode, c treeCall, a treeAnswers) {
			if a.set.Code != impl.OK {
				return
			}
			set++
			want := impl.GetZ(nodes, c.path).Nodes[0]
			if c.version != -1 && c.version != want.Version {
				t.Fatalf("%v in %v: set, though of another version", c, nodes)
			}
			want.Data = c.data
			want.Version++
			if got := impl.GetZ(a.set.Nodes, c.path); !sameZ(got, impl.ZResult{Nodes: []impl.Znode{want}}) {
				t.Fatalf("%v in %v: got %v, want %v", c, nodes, got, want)
			}
			if !slices.Equal(but(a.set.Nodes, c.path), but(nodes, c.path)) || impl.TreeFault(a.set.Nodes) != impl.OK {
				t.Fatalf("%v in %v: others turned: %v", c, nodes, a.set)
			}
		})
	}
	if set < 1000 {
		t.Errorf("only %d nodes were set", set)
	}
}

// Promise 3: what is deleted is gone, had no kids, and may be made again.
func TestDeletedIsGone(t *testing.T) {
	deleted := 0
	for seed := range uint64(60) {
		walk(seed, func(nodes []impl.Znode, c treeCall, a treeAnswers) {
			if a.deleted.Code != impl.OK {
				return
			}
			deleted++
			if c.path == "/" || len(impl.KidsZ(nodes, c.path).Texts) != 0 {
				t.Fatalf("%v in %v: it had kids, or was the top", c, nodes)
			}
			after := a.deleted.Nodes
			if impl.GetZ(after, c.path).Code != impl.ErrNone || impl.TreeFault(after) != impl.OK {
				t.Fatalf("%v in %v: it is there yet, or what is left is no tree: %v", c, nodes, after)
			}
			if !slices.Equal(after, but(nodes, c.path)) {
				t.Fatalf("%v in %v: others turned: %v", c, nodes, after)
			}
			again := impl.CreateZ(after, c.path, 5, 0, false)
			if again.Code != impl.OK || again.Path != c.path || len(again.Nodes) != len(nodes) {
				t.Fatalf("%v in %v: it is not made again: %v", c, nodes, again)
			}
		})
	}
	if deleted < 500 {
		t.Errorf("only %d nodes were deleted", deleted)
	}
}

// Promise 1: every argument has an answer, however many nodes or odd numbers it has.
func TestEveryTreeIsAnswered(t *testing.T) {
	far := []int64{math.MinInt64, math.MinInt64 + 1, -1, 0, 1, math.MaxInt64 - 1, math.MaxInt64}
	texts := []string{"", "/", "/a", "/a/b", "x", strings.Repeat("/", 1<<16), strings.Repeat("/a", 1<<16), "\xff", "/\x00"}
	trees := [][]impl.Znode{nil, {}, treeOf(), wideTree(20), wideTree(21), make([]impl.Znode, 1<<16)}
	for _, text := range texts {
		trees = append(trees, []impl.Znode{{Path: text}}, []impl.Znode{{Path: "/"}, {Path: text}})
		for _, n := range far {
			trees = append(trees, []impl.Znode{{Path: "/", Next: n}}, []impl.Znode{{Path: "/"}, {Path: text, Data: n, Version: n, Owner: n, Next: n}})
		}
	}
	for i, nodes := range trees {
		for _, text := range texts {
			for _, n := range far {
				c := treeCall{path: text, data: n, owner: n, version: n, seq: n > 0}
				if got, want := programTree(nodes, c), modelTreeSays(nodes, c); !sameAnswers(got, want) {
					t.Fatalf("of tree %d, %.20q and %d: %v, want %v", i, text, n, got, want)
				}
			}
		}
		if !impl.SameTrees(nodes, slices.Clone(nodes)) {
			t.Fatalf("tree %d is not the same as its copy", i)
		}
	}
}

// Promise 1: an answer hangs on the arguments alone, so it is the same in whatever order it is asked.
func TestTreeAnswersHangOnArgumentsAlone(t *testing.T) {
	r := rand.New(rand.NewPCG(5, 5))
	var trees [][]impl.Znode
	var calls []treeCall
	var first []treeAnswers
	for range 500 {
		nodes, c := drawnTree(r), drawnCall(r)
		trees, calls, first = append(trees, nodes), append(calls, c), append(first, programTree(nodes, c))
	}
	for i := len(trees) - 1; i >= 0; i-- {
		if again := programTree(trees[i], calls[i]); !sameAnswers(again, first[i]) {
			t.Fatalf("of %v and %v: %v, and at first %v", trees[i], calls[i], again, first[i])
		}
	}
}

// sharesRoom asks of all the room that two lists have, also of what lies behind their last elements.
func sharesRoom[A any, B any](a []A, b []B) bool {
	if cap(a) == 0 || cap(b) == 0 {
		return false
	}
	sizeA, sizeB := unsafe.Sizeof(*new(A)), unsafe.Sizeof(*new(B))
	fromA, fromB := uintptr(unsafe.Pointer(unsafe.SliceData(a))), uintptr(unsafe.Pointer(unsafe.SliceData(b)))
	return fromA < fromB+uintptr(cap(b))*sizeB && fromB < fromA+uintptr(cap(a))*sizeA
}

// ownNodes lays nodes where nothing else lies: their texts are new, and room is left behind them for whoever writes there.
func ownNodes(nodes []impl.Znode) []impl.Znode {
	own := make([]impl.Znode, 0, len(nodes)+4)
	for _, z := range nodes {
		z.Path = strings.Clone(z.Path)
		own = append(own, z)
	}
	return own
}

func textsIn(nodes []impl.Znode) []string {
	var texts []string
	for _, z := range nodes {
		texts = append(texts, z.Path)
	}
	return texts
}

// Promise 1: what is answered shares no memory with the nodes that are handed in.
func TestTreeAnswersAreNewMemory(t *testing.T) {
	r := rand.New(rand.NewPCG(9, 9))
	for range 600 {
		nodes, c := ownNodes(drawnTree(r)), drawnCall(r)
		c.path = strings.Clone(c.path)
		a := programTree(nodes, c)
		handed := append(textsIn(nodes), c.path)
		answered := slices.Concat(a.kids.Texts, []string{a.created.Path})
		for _, z := range a.trees() {
			if sharesRoom(z.Nodes, nodes) {
				t.Fatalf("of %v and %v: %v shares its nodes", nodes, c, z)
			}
			answered = append(answered, textsIn(z.Nodes)...)
		}
		for _, old := range handed {
			for _, text := range answered {
				if sharesMemory(old, text) {
					t.Fatalf("of %v and %v: the text %q is shared", nodes, c, text)
				}
			}
		}
	}
}

// Promise 1: no call changes the nodes that are handed in, nor what lies behind them.
func TestTreesStayAsTheyAre(t *testing.T) {
	r := rand.New(rand.NewPCG(11, 11))
	for range 600 {
		nodes, c := ownNodes(drawnTree(r)), drawnCall(r)
		for range r.IntN(2) {
			nodes = ownNodes(spoilt(r, nodes))
		}
		all := nodes[:cap(nodes)]
		before := slices.Clone(all)
		programTree(nodes, c)
		impl.SameTrees(nodes, before)
		impl.SameTrees(before[:len(nodes)], nodes)
		if !slices.Equal(all, before) {
			t.Fatalf("by %v: %v, and before %v", c, all, before)
		}
	}
}
