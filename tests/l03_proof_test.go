package tests

import (
	"math"
	"math/rand/v2"
	"slices"
	"strings"
	"testing"

	"loop.example/g00369/impl"
)

const lastSum = 1000002

var farNumbers = []int64{math.MinInt64, math.MinInt64 + 1, -1000003, -1, 1000003, 1000004, math.MaxInt64 - 1, math.MaxInt64}

func valueOf(n int64) impl.IntResult {
	return impl.IntResult{Value: n}
}

func noValue(code int64) impl.IntResult {
	return impl.IntResult{Code: code}
}

// alike is a list of one number, as many times as is told.
func alike(number int64, many int) []int64 {
	return slices.Repeat([]int64{number}, many)
}

// counting are the numbers from 0 on.
func counting(many int) []int64 {
	var list []int64
	for i := range many {
		list = append(list, int64(i))
	}
	return list
}

// listWith is list with one number in place of that at a place.
func listWith(list []int64, at int, number int64) []int64 {
	list = slices.Clone(list)
	list[at] = number
	return list
}

func TestSumBound(t *testing.T) {
	if impl.SumBound != 1000003 {
		t.Errorf("SumBound %d, want 1000003", impl.SumBound)
	}
}

func TestSumOf(t *testing.T) {
	falling := counting(200)
	slices.Reverse(falling)
	cases := []struct {
		name string
		list []int64
		want impl.IntResult
	}{
		{"nil", nil, valueOf(7)},
		{"no number", []int64{}, valueOf(7)},
		{"0", []int64{0}, valueOf(218)},
		{"1", []int64{1}, valueOf(219)},
		{"3", []int64{3}, valueOf(221)},
		{"the last sum", []int64{lastSum}, valueOf(217)},
		{"one that comes to the least sum", []int64{999785}, valueOf(0)},
		{"one that comes to the last sum", []int64{999784}, valueOf(lastSum)},
		{"two", []int64{1, 2}, valueOf(6792)},
		{"the same two the other way", []int64{2, 1}, valueOf(6822)},
		{"a 0 behind a 0", []int64{0, 0}, valueOf(6759)},
		{"the last sum ahead", []int64{lastSum, 0}, valueOf(6728)},
		{"the last sum behind", []int64{0, lastSum}, valueOf(6758)},
		{"the last sum twice", []int64{lastSum, lastSum}, valueOf(6727)},
		{"200 of 0", alike(0, 200), valueOf(913675)},
		{"200 of the last sum", alike(lastSum, 200), valueOf(776643)},
		{"200 that rise", counting(200), valueOf(451568)},
		{"200 that fall", falling, valueOf(645066)},
		{"201 of 0", alike(0, 201), noValue(impl.ErrMany)},
		{"201, the first out of bounds", listWith(alike(0, 201), 0, -1), noValue(impl.ErrMany)},
		{"201, the last out of bounds", listWith(alike(0, 201), 200, 1000003), noValue(impl.ErrMany)},
		{"201, all out of bounds", alike(-1, 201), noValue(impl.ErrMany)},
		{"200, the first out of bounds", listWith(alike(0, 200), 0, 1000003), noValue(impl.ErrRange)},
		{"200, the last out of bounds", listWith(alike(0, 200), 199, -1), noValue(impl.ErrRange)},
	}
	for _, c := range cases {
		if got := impl.SumOf(c.list); got != c.want {
			t.Errorf("%s: SumOf %v, want %v", c.name, got, c.want)
		}
	}
	for _, far := range farNumbers {
		for at := range 3 {
			if got := impl.SumOf(listWith([]int64{1, 2, 3}, at, far)); got != noValue(impl.ErrRange) {
				t.Errorf("%d at %d: SumOf %v, want ErrRange alone", far, at, got)
			}
		}
	}
}

func TestPairSum(t *testing.T) {
	cases := []struct {
		a, b int64
		want int64
	}{
		{0, 0, 210491},
		{1, 2, 210524},
		{2, 1, 210554},
		{7, 7, 210715},
		{lastSum, 0, 210460},
		{0, lastSum, 210490},
		{lastSum, lastSum, 210459},
	}
	for _, c := range cases {
		if got := impl.PairSum(c.a, c.b); got != valueOf(c.want) || got != impl.SumOf([]int64{1, c.a, c.b}) {
			t.Errorf("PairSum(%d, %d) = %v, want %d", c.a, c.b, got, c.want)
		}
	}
	for _, far := range farNumbers {
		for _, other := range []int64{0, 5, lastSum, far} {
			if got := impl.PairSum(far, other); got != noValue(impl.ErrRange) {
				t.Errorf("PairSum(%d, %d) = %v, want ErrRange alone", far, other, got)
			}
			if got := impl.PairSum(other, far); got != noValue(impl.ErrRange) {
				t.Errorf("PairSum(%d, %d) = %v, want ErrRange alone", other, far, got)
			}
		}
	}
}

func TestLeafSum(t *testing.T) {
	const long = "/abcdefgh/abcdefgh/abcde"
	cases := []struct {
		name string
		z    impl.Znode
		want impl.IntResult
	}{
		{"the top", impl.Znode{Path: "/"}, valueOf(90544)},
		{"one name", impl.Znode{Path: "/a"}, valueOf(806956)},
		{"with Data", impl.Znode{Path: "/a", Data: 5}, valueOf(952282)},
		{"each number its own", impl.Znode{Path: "/a", Data: 1, Version: 2, Owner: 3, Next: 4}, valueOf(376273)},
		{"the most of each", impl.Znode{Path: "/a/b", Data: 9999, Version: 999, Owner: 9, Next: 100}, valueOf(217344)},
		{"24 bytes", impl.Znode{Path: long, Data: 1, Version: 2, Owner: 3, Next: 4}, valueOf(823201)},
		{"an owner at the top", impl.Znode{Path: "/", Owner: 9}, modelLeaf(impl.Znode{Path: "/", Owner: 9})},
		{"the zero value", impl.Znode{}, noValue(impl.ErrText)},
		{"no path", impl.Znode{Path: "/a/"}, noValue(impl.ErrText)},
		{"25 bytes", impl.Znode{Path: long + "f"}, noValue(impl.ErrMany)},
		{"five names", impl.Znode{Path: "/a/b/c/d/e"}, noValue(impl.ErrMany)},
		{"no path ahead of wrong Data", impl.Znode{Path: "a", Data: -1}, noValue(impl.ErrText)},
		{"too many names ahead of a wrong Next", impl.Znode{Path: "/a/b/c/d/e", Next: 101}, noValue(impl.ErrMany)},
		{"all numbers wrong", impl.Znode{Path: "/a", Data: -1, Version: 1000, Owner: -1, Next: 101}, noValue(impl.ErrRange)},
	}
	for _, c := range cases {
		if got := impl.LeafSum(c.z); got != c.want {
			t.Errorf("%s: LeafSum %v, want %v", c.name, got, c.want)
		}
	}
}

func TestLeafSumAsksNumbers(t *testing.T) {
	for name, c := range map[string]struct {
		most int64
		of   func(n int64) impl.Znode
	}{
		"Data":    {9999, func(n int64) impl.Znode { return impl.Znode{Path: "/a", Data: n} }},
		"Version": {999, func(n int64) impl.Znode { return impl.Znode{Path: "/a", Version: n} }},
		"Owner":   {9, func(n int64) impl.Znode { return impl.Znode{Path: "/a", Owner: n} }},
		"Next":    {100, func(n int64) impl.Znode { return impl.Znode{Path: "/a", Next: n} }},
	} {
		for _, n := range []int64{0, 1, c.most - 1, c.most} {
			if got, want := impl.LeafSum(c.of(n)), modelLeaf(c.of(n)); got != want || got.Code != impl.OK {
				t.Errorf("%s %d: LeafSum %v, want %v", name, n, got, want)
			}
		}
		for _, n := range []int64{math.MinInt64, -1, c.most + 1, lastSum, math.MaxInt64} {
			if got := impl.LeafSum(c.of(n)); got != noValue(impl.ErrRange) {
				t.Errorf("%s %d: LeafSum %v, want ErrRange alone", name, n, got)
			}
		}
	}
}

// mixedTree has the top and kids of it, no two of which have the same numbers.
func mixedTree(many int) []impl.Znode {
	nodes := wideTree(many)
	for i := range nodes {
		n := int64(i)
		nodes[i].Data, nodes[i].Version, nodes[i].Next = 500*n+3, 49*n+1, 5*n
		if i > 0 {
			nodes[i].Owner = n % 10
		}
	}
	return nodes
}

// paired is the one sum over all of these, of which none is ever left over: there are 2, 4, 8 or 16 of them.
func paired(sums []int64) int64 {
	if len(sums) == 1 {
		return sums[0]
	}
	var up []int64
	for two := range slices.Chunk(sums, 2) {
		up = append(up, modelPair(two[0], two[1]).Value)
	}
	return paired(up)
}

func pairOf(a int64, b int64) int64 {
	return paired([]int64{a, b})
}

// rootsByHand tells by how its rows come out what the root of so many leaves is.
func rootsByHand(l []int64) int64 {
	switch len(l) {
	case 1:
		return l[0]
	case 2, 4, 8:
		return paired(l)
	case 3:
		return pairOf(pairOf(l[0], l[1]), l[2])
	case 5:
		return pairOf(paired(l[:4]), l[4])
	case 6:
		return pairOf(paired(l[:4]), pairOf(l[4], l[5]))
	case 7:
		return pairOf(paired(l[:4]), pairOf(pairOf(l[4], l[5]), l[6]))
	case 9:
		return pairOf(paired(l[:8]), l[8])
	case 19:
		return pairOf(paired(l[:16]), pairOf(pairOf(l[16], l[17]), l[18]))
	case 20:
		return pairOf(paired(l[:16]), paired(l[16:]))
	}
	return -1
}

func TestRootOf(t *testing.T) {
	for _, many := range []int{1, 2, 3, 4, 5, 6, 7, 8, 9, 19, 20} {
		nodes := mixedTree(many)
		want := rootsByHand(modelLeaves(nodes))
		if got := impl.RootOf(nodes); got != valueOf(want) {
			t.Errorf("of %d nodes: RootOf %v, want %d", many, got, want)
		}
	}
	three := []impl.Znode{{Path: "/"}, {Path: "/a", Data: 5}, {Path: "/b", Data: 6}}
	if got := impl.RootOf(three); got != valueOf(850216) {
		t.Errorf("RootOf %v, want 850216", got)
	}
	if got := impl.RootOf(treeOf()); got != valueOf(90544) {
		t.Errorf("of the top alone: RootOf %v, want 90544", got)
	}
}

var faultyTrees = []faultCase{
	{"nil", nil, impl.ErrNone},
	{"no nodes", []impl.Znode{}, impl.ErrNone},
	{"21 nodes", wideTree(21), impl.ErrMany},
	{"200 nodes that are none", make([]impl.Znode, 200), impl.ErrMany},
	{"a text that is no path", treeOf("/a", "/a/"), impl.ErrText},
	{"five names", treeOf("/a/b/c/d/e"), impl.ErrMany},
	{"wrong Data", treeWith(impl.Znode{Path: "/b", Data: 10000}, "/a", "/b"), impl.ErrRange},
	{"a wrong Next at the top", treeWith(impl.Znode{Path: "/", Next: -1}, "/a"), impl.ErrRange},
	{"it falls", treeOf("/b", "/a"), impl.ErrForm},
	{"one twice", treeOf("/a", "/a"), impl.ErrForm},
	{"no top", []impl.Znode{{Path: "/a"}}, impl.ErrNone},
	{"no parent", treeOf("/a/b"), impl.ErrNone},
	{"a parent with an Owner", treeWith(impl.Znode{Path: "/a", Owner: 1}, "/a", "/a/b"), impl.ErrForm},
}

func TestFaultyTreesHaveNoRootAndNoProof(t *testing.T) {
	for _, c := range faultyTrees {
		if got := impl.RootOf(c.nodes); got != noValue(c.want) {
			t.Errorf("%s: RootOf %v, want the code %d alone", c.name, got, c.want)
		}
		// The tree is asked ahead of the path, whether that is there, is not there, or is none.
		for _, path := range []string{"/", "/a", "/z", "x", "", "/a/b/c/d/e", strings.Repeat("a", 25)} {
			if got := impl.ProveZ(c.nodes, path); !sameProof(got, impl.ProofResult{Code: c.want}) {
				t.Errorf("%s: ProveZ of %q %v, want the code %d alone", c.name, path, got, c.want)
			}
		}
	}
}

func TestProveZCodes(t *testing.T) {
	nodes := mixedTree(5)
	cases := []struct {
		path string
		want int64
	}{
		{"/z", impl.ErrNone},
		{"/k", impl.ErrNone},
		{"/kaa", impl.ErrNone},
		{"/ka/b", impl.ErrNone},
		{"/a", impl.ErrNone},
		{"", impl.ErrText},
		{"ka", impl.ErrText},
		{"/ka/", impl.ErrText},
		{"/Ka", impl.ErrText},
		{"/abcdefghi", impl.ErrText},
		{"/a/b/c/d/e", impl.ErrMany},
		{"/////", impl.ErrMany},
		{strings.Repeat("a", 25), impl.ErrMany},
	}
	for _, c := range cases {
		if got := impl.ProveZ(nodes, c.path); !sameProof(got, impl.ProofResult{Code: c.want}) {
			t.Errorf("ProveZ of %q: %v, want the code %d alone", c.path, got, c.want)
		}
	}
}

func leftSide(sum int64) impl.Side {
	return impl.Side{Left: true, Sum: sum}
}

func rightSide(sum int64) impl.Side {
	return impl.Side{Sum: sum}
}

// sidesByHand tells for how many nodes and at which place what the sides are, out of the leaves.
type sidesByHand struct {
	many, at int
	sides    func(l []int64) []impl.Side
}

var smallProofs = []sidesByHand{
	{1, 0, func(l []int64) []impl.Side { return nil }},
	{2, 0, func(l []int64) []impl.Side { return []impl.Side{rightSide(l[1])} }},
	{2, 1, func(l []int64) []impl.Side { return []impl.Side{leftSide(l[0])} }},
	{3, 0, func(l []int64) []impl.Side { return []impl.Side{rightSide(l[1]), rightSide(l[2])} }},
	{3, 1, func(l []int64) []impl.Side { return []impl.Side{leftSide(l[0]), rightSide(l[2])} }},
	{3, 2, func(l []int64) []impl.Side { return []impl.Side{leftSide(pairOf(l[0], l[1]))} }},
	{4, 0, func(l []int64) []impl.Side { return []impl.Side{rightSide(l[1]), rightSide(pairOf(l[2], l[3]))} }},
	{4, 1, func(l []int64) []impl.Side { return []impl.Side{leftSide(l[0]), rightSide(pairOf(l[2], l[3]))} }},
	{4, 2, func(l []int64) []impl.Side { return []impl.Side{rightSide(l[3]), leftSide(pairOf(l[0], l[1]))} }},
	{4, 3, func(l []int64) []impl.Side { return []impl.Side{leftSide(l[2]), leftSide(pairOf(l[0], l[1]))} }},
	{5, 0, func(l []int64) []impl.Side {
		return []impl.Side{rightSide(l[1]), rightSide(pairOf(l[2], l[3])), rightSide(l[4])}
	}},
	{5, 2, func(l []int64) []impl.Side {
		return []impl.Side{rightSide(l[3]), leftSide(pairOf(l[0], l[1])), rightSide(l[4])}
	}},
	{5, 4, func(l []int64) []impl.Side { return []impl.Side{leftSide(paired(l[:4]))} }},
	{6, 0, func(l []int64) []impl.Side {
		return []impl.Side{rightSide(l[1]), rightSide(pairOf(l[2], l[3])), rightSide(pairOf(l[4], l[5]))}
	}},
	{6, 3, func(l []int64) []impl.Side {
		return []impl.Side{leftSide(l[2]), leftSide(pairOf(l[0], l[1])), rightSide(pairOf(l[4], l[5]))}
	}},
	{6, 4, func(l []int64) []impl.Side { return []impl.Side{rightSide(l[5]), leftSide(paired(l[:4]))} }},
	{6, 5, func(l []int64) []impl.Side { return []impl.Side{leftSide(l[4]), leftSide(paired(l[:4]))} }},
	{7, 0, func(l []int64) []impl.Side {
		return []impl.Side{rightSide(l[1]), rightSide(pairOf(l[2], l[3])), rightSide(pairOf(pairOf(l[4], l[5]), l[6]))}
	}},
	{7, 4, func(l []int64) []impl.Side {
		return []impl.Side{rightSide(l[5]), rightSide(l[6]), leftSide(paired(l[:4]))}
	}},
	{7, 6, func(l []int64) []impl.Side { return []impl.Side{leftSide(pairOf(l[4], l[5])), leftSide(paired(l[:4]))} }},
}

var greatProofs = []sidesByHand{
	{8, 0, func(l []int64) []impl.Side {
		return []impl.Side{rightSide(l[1]), rightSide(pairOf(l[2], l[3])), rightSide(paired(l[4:]))}
	}},
	{8, 5, func(l []int64) []impl.Side {
		return []impl.Side{leftSide(l[4]), rightSide(pairOf(l[6], l[7])), leftSide(paired(l[:4]))}
	}},
	{8, 7, func(l []int64) []impl.Side {
		return []impl.Side{leftSide(l[6]), leftSide(pairOf(l[4], l[5])), leftSide(paired(l[:4]))}
	}},
	{9, 0, func(l []int64) []impl.Side {
		return []impl.Side{rightSide(l[1]), rightSide(pairOf(l[2], l[3])), rightSide(paired(l[4:8])), rightSide(l[8])}
	}},
	{9, 4, func(l []int64) []impl.Side {
		return []impl.Side{rightSide(l[5]), rightSide(pairOf(l[6], l[7])), leftSide(paired(l[:4])), rightSide(l[8])}
	}},
	{9, 8, func(l []int64) []impl.Side { return []impl.Side{leftSide(paired(l[:8]))} }},
	{19, 0, func(l []int64) []impl.Side {
		return []impl.Side{rightSide(l[1]), rightSide(pairOf(l[2], l[3])), rightSide(paired(l[4:8])), rightSide(paired(l[8:16])), rightSide(pairOf(pairOf(l[16], l[17]), l[18]))}
	}},
	{19, 9, func(l []int64) []impl.Side {
		return []impl.Side{leftSide(l[8]), rightSide(pairOf(l[10], l[11])), rightSide(paired(l[12:16])), leftSide(paired(l[:8])), rightSide(pairOf(pairOf(l[16], l[17]), l[18]))}
	}},
	{19, 17, func(l []int64) []impl.Side {
		return []impl.Side{leftSide(l[16]), rightSide(l[18]), leftSide(paired(l[:16]))}
	}},
	{19, 18, func(l []int64) []impl.Side {
		return []impl.Side{leftSide(pairOf(l[16], l[17])), leftSide(paired(l[:16]))}
	}},
	{20, 0, func(l []int64) []impl.Side {
		return []impl.Side{rightSide(l[1]), rightSide(pairOf(l[2], l[3])), rightSide(paired(l[4:8])), rightSide(paired(l[8:16])), rightSide(paired(l[16:]))}
	}},
	{20, 10, func(l []int64) []impl.Side {
		return []impl.Side{rightSide(l[11]), leftSide(pairOf(l[8], l[9])), rightSide(paired(l[12:16])), leftSide(paired(l[:8])), rightSide(paired(l[16:]))}
	}},
	{20, 16, func(l []int64) []impl.Side {
		return []impl.Side{rightSide(l[17]), rightSide(pairOf(l[18], l[19])), leftSide(paired(l[:16]))}
	}},
	{20, 19, func(l []int64) []impl.Side {
		return []impl.Side{leftSide(l[18]), leftSide(pairOf(l[16], l[17])), leftSide(paired(l[:16]))}
	}},
}

func TestProveZ(t *testing.T) {
	for _, c := range slices.Concat(smallProofs, greatProofs) {
		nodes := mixedTree(c.many)
		leaves := modelLeaves(nodes)
		want := impl.ProofResult{Sum: leaves[c.at], Sides: c.sides(leaves)}
		if got := impl.ProveZ(nodes, nodes[c.at].Path); !sameProof(got, want) {
			t.Errorf("of %d nodes at %d: %v, want %v", c.many, c.at, got, want)
		}
		if !impl.CheckProof(nodes[c.at], want.Sides, rootsByHand(leaves)) {
			t.Errorf("of %d nodes at %d: %v is not taken", c.many, c.at, want)
		}
	}
}

// checkRight holds CheckProof against what is told and against the model.
func checkRight(t *testing.T, name string, z impl.Znode, sides []impl.Side, root int64, want bool) {
	t.Helper()
	if got := impl.CheckProof(z, sides, root); got != want || modelCheck(z, sides, root) != want {
		t.Errorf("%s: CheckProof of %v, %v and %d: %v, want %v", name, z, sides, root, got, want)
	}
}

func TestCheckProofCountsSides(t *testing.T) {
	z := impl.Znode{Path: "/a", Data: 5}
	checkRight(t, "nil", z, nil, 952282, true)
	checkRight(t, "no sides", z, []impl.Side{}, 952282, true)
	checkRight(t, "no sides, another root", z, nil, 952283, false)
	checkRight(t, "no sides, another node", impl.Znode{Path: "/a", Data: 6}, nil, 952282, false)
	for many := range 12 {
		var sides []impl.Side
		for i := range many {
			sides = append(sides, impl.Side{Left: i%2 == 0, Sum: int64(1000 * i)})
		}
		checkRight(t, "many sides", z, sides, modelLed(z, sides), many <= 8)
		checkRight(t, "many sides, another root", z, sides, (modelLed(z, sides)+1)%1000003, false)
	}
	nine := make([]impl.Side, 9)
	checkRight(t, "9 sides, the root of 8 of them", z, nine, modelLed(z, nine[:8]), false)
	checkRight(t, "9 sides, the root 0", z, nine, 0, false)
}

func TestCheckProofAsksSums(t *testing.T) {
	z := impl.Znode{Path: "/a", Data: 5}
	for _, n := range []int64{0, 1, lastSum - 1, lastSum} {
		for _, s := range []impl.Side{leftSide(n), rightSide(n)} {
			checkRight(t, "a sum", z, []impl.Side{s}, modelLed(z, []impl.Side{s}), true)
			checkRight(t, "a sum, another root", z, []impl.Side{s}, modelLed(z, []impl.Side{s})-1, false)
		}
	}
	for _, far := range farNumbers {
		for _, s := range []impl.Side{leftSide(far), rightSide(far)} {
			// What such a side could lead to, were it counted as some sum that it is like.
			for _, n := range []int64{0, 1, lastSum} {
				like := impl.Side{Left: s.Left, Sum: n}
				checkRight(t, "no sum", z, []impl.Side{s}, modelLed(z, []impl.Side{like}), false)
				checkRight(t, "no sum behind", z, []impl.Side{rightSide(3), s}, modelLed(z, []impl.Side{rightSide(3), like}), false)
				checkRight(t, "no sum ahead", z, []impl.Side{s, rightSide(3)}, modelLed(z, []impl.Side{like, rightSide(3)}), false)
			}
			checkRight(t, "no sum, the root 0", z, []impl.Side{s}, 0, false)
			checkRight(t, "no sum, the leaf's own", z, []impl.Side{s}, 952282, false)
			checkRight(t, "no sum, then one, from 0", z, []impl.Side{s, rightSide(3)}, modelPair(0, 3).Value, false)
		}
		checkRight(t, "a root that is no sum", z, nil, far, false)
	}
	checkRight(t, "a root that leaves the sum", z, nil, 952282+1000003, false)
	checkRight(t, "a root that leaves the sum below 0", z, nil, 952282-1000003, false)
}

func TestCheckProofAsksTheNode(t *testing.T) {
	for _, z := range []impl.Znode{
		{},
		{Path: "a"},
		{Path: "/a/"},
		{Path: "/a/b/c/d/e"},
		{Path: "/abcdefgh/abcdefgh/abcdef"},
		{Path: "/a", Data: -1},
		{Path: "/a", Data: 10000},
		{Path: "/a", Version: -1},
		{Path: "/a", Version: 1000},
		{Path: "/a", Owner: -1},
		{Path: "/a", Owner: 10},
		{Path: "/a", Next: -1},
		{Path: "/a", Next: 101},
		{Path: "/a", Data: math.MinInt64},
		{Path: "/a", Next: math.MaxInt64},
	} {
		numbers := []int64{0, z.Data, z.Version, z.Owner, z.Next}
		for _, b := range []byte(z.Path) {
			numbers = append(numbers, int64(b))
		}
		for _, root := range []int64{0, 7, modelSum(numbers).Value} {
			checkRight(t, "a node with a fault", z, nil, root, false)
			checkRight(t, "a node with a fault", z, []impl.Side{rightSide(0)}, modelPair(root, 0).Value, false)
		}
	}
}

// nodesBeside are what z becomes by turning one field of it, each within its bounds.
func nodesBeside(z impl.Znode) []impl.Znode {
	var all []impl.Znode
	for _, by := range []int64{-1, 1} {
		data, version, owner, next := z, z, z, z
		data.Data += by
		version.Version += by
		owner.Owner += by
		next.Next += by
		all = append(all, data, version, owner, next)
	}
	path := z
	path.Path = "/zz"
	return append(all, path)
}

// What stands left is only added to what is there, so where all do their order is all one.
func standsRight(s impl.Side) bool {
	return !s.Left
}

// A turn of one thing always leads elsewhere: SumBound is a prime, so no step of a sum takes a turn back.
func TestTurnedProofsAreNotTaken(t *testing.T) {
	for many := 1; many <= 20; many++ {
		nodes := mixedTree(many)
		root := impl.RootOf(nodes).Value
		for _, z := range nodes {
			sides := impl.ProveZ(nodes, z.Path).Sides
			checkRight(t, "its own", z, sides, root, true)
			for _, other := range []int64{root - 1, root + 1, 0, 7, root + 1000003, -root} {
				checkRight(t, "another root", z, sides, other, false)
			}
			for _, beside := range nodesBeside(z) {
				checkRight(t, "another node", beside, sides, root, false)
			}
			for i := range sides {
				other := slices.Clone(sides)
				other[i].Sum = (other[i].Sum + 1) % 1000003
				checkRight(t, "another sum", z, other, root, false)
				other = slices.Clone(sides)
				other[i].Left = !other[i].Left
				checkRight(t, "another side", z, other, root, false)
				checkRight(t, "a side too few", z, slices.Delete(slices.Clone(sides), i, i+1), root, false)
				checkRight(t, "a side twice", z, slices.Insert(slices.Clone(sides), i, sides[i]), root, false)
			}
			checkRight(t, "a side too many", z, append(slices.Clone(sides), rightSide(0)), root, false)
			checkRight(t, "a side too many, the root itself", z, append(slices.Clone(sides), leftSide(root)), root, false)
			reversed := slices.Clone(sides)
			slices.Reverse(reversed)
			checkRight(t, "the other way round", z, reversed, root, len(sides) < 2 || !slices.ContainsFunc(sides, standsRight))
		}
	}
}

// Where both of a pair are the same sum it is all one which of them stands left.
func TestLeftIsAllOneBesideItsLike(t *testing.T) {
	z := impl.Znode{Path: "/a", Data: 5}
	root := modelPair(952282, 952282).Value
	checkRight(t, "left", z, []impl.Side{leftSide(952282)}, root, true)
	checkRight(t, "right", z, []impl.Side{rightSide(952282)}, root, true)
	checkRight(t, "left of another", z, []impl.Side{leftSide(952281)}, modelPair(952282, 952281).Value, false)
}

// The bytes of a path are counted one by one, each at its place.
func TestLeafSumTellsPathsApart(t *testing.T) {
	for _, pair := range [][2]string{{"/a", "/b"}, {"/ab", "/ba"}, {"/a/b", "/ab"}, {"/", "/0"}, {"/a", "/aa"}} {
		a, b := impl.LeafSum(impl.Znode{Path: pair[0]}), impl.LeafSum(impl.Znode{Path: pair[1]})
		if a.Code != impl.OK || b.Code != impl.OK || a == b {
			t.Errorf("%q and %q: %v and %v", pair[0], pair[1], a, b)
		}
	}
	for _, path := range drawnPaths {
		if got, want := impl.LeafSum(impl.Znode{Path: path}), modelLeaf(impl.Znode{Path: path}); got != want {
			t.Errorf("%q: LeafSum %v, want %v", path, got, want)
		}
	}
}

func TestProofsAreWhatTheModelTells(t *testing.T) {
	t.Parallel()
	seen := map[int64]int{}
	taken := map[bool]int{}
	r := rand.New(rand.NewPCG(3, 1))
	for range 3000 {
		c := drawnProof(r)
		got, want := programProof(c), modelProof(c)
		if !sameProofs(got, want) {
			t.Fatalf("of %v:\n%v, want\n%v", c, got, want)
		}
		for _, n := range []impl.IntResult{got.sum, got.pair, got.leaf, got.root} {
			seen[n.Code]++
		}
		seen[got.proof.Code]++
		taken[got.right]++
	}
	for _, code := range []int64{impl.OK, impl.ErrForm, impl.ErrMany, impl.ErrRange, impl.ErrNone, impl.ErrText} {
		if seen[code] < 50 {
			t.Errorf("the code %d was told only %d times", code, seen[code])
		}
	}
	if taken[true] < 500 || taken[false] < 500 {
		t.Errorf("proofs taken and not: %v", taken)
	}
}

// Promise 4: each node of a tree is shown to be in it.
func TestEachNodeIsShownToBeInItsTree(t *testing.T) {
	sizes := map[int]int{}
	r := rand.New(rand.NewPCG(4, 4))
	for i := range 600 {
		nodes := drawnTree(r)
		if i < 20 {
			nodes = mixedTree(i + 1)
		}
		root := impl.RootOf(nodes)
		if root.Code != impl.OK {
			t.Fatalf("of %v: RootOf %v", nodes, root)
		}
		sizes[len(nodes)]++
		for _, z := range nodes {
			p := impl.ProveZ(nodes, z.Path)
			if p.Code != impl.OK || valueOf(p.Sum) != impl.LeafSum(z) || !impl.CheckProof(z, p.Sides, root.Value) {
				t.Fatalf("of %v at %s: %v does not lead to %v", nodes, z.Path, p, root)
			}
			got := impl.GetZ(nodes, z.Path).Nodes[0]
			if !impl.CheckProof(got, p.Sides, root.Value) {
				t.Fatalf("of %v at %s: what is got is not shown by %v", nodes, z.Path, p)
			}
		}
	}
	for many := 1; many <= 20; many++ {
		if sizes[many] == 0 {
			t.Errorf("no tree of %d nodes was asked", many)
		}
	}
}

// Promise 4: what is set is shown as it is now, and no more as it was; the sides stay, as no other node turned.
func TestProofFollowsWhatIsSet(t *testing.T) {
	set := 0
	for seed := range uint64(20) {
		walk(seed, func(nodes []impl.Znode, c treeCall, a treeAnswers) {
			if a.set.Code != impl.OK {
				return
			}
			set++
			old, now := impl.GetZ(nodes, c.path).Nodes[0], impl.GetZ(a.set.Nodes, c.path).Nodes[0]
			p, root := impl.ProveZ(a.set.Nodes, c.path), impl.RootOf(a.set.Nodes).Value
			if !impl.CheckProof(now, p.Sides, root) || impl.CheckProof(old, p.Sides, root) || impl.RootOf(nodes).Value == root {
				t.Fatalf("%v in %v: what is there now is not shown, or what was is", c, nodes)
			}
			if !slices.Equal(p.Sides, impl.ProveZ(nodes, c.path).Sides) {
				t.Fatalf("%v in %v: the sides turned", c, nodes)
			}
		})
	}
	if set < 300 {
		t.Errorf("only %d nodes were set", set)
	}
}

func isBounded(sums ...int64) bool {
	for _, n := range sums {
		if n < 0 || n >= impl.SumBound {
			return false
		}
	}
	return true
}

// Promise 4: a sum is within its bounds, and beside a code it is 0.
func TestSumsStayWithinBounds(t *testing.T) {
	r := rand.New(rand.NewPCG(6, 6))
	for range 1200 {
		c := drawnProof(r)
		a := programProof(c)
		for _, n := range []impl.IntResult{a.sum, a.pair, a.leaf, a.root} {
			if !isBounded(n.Value) || n.Code != impl.OK && n.Value != 0 {
				t.Fatalf("of %v: %v", c, n)
			}
		}
		if a.proof.Code != impl.OK && !sameProof(a.proof, impl.ProofResult{Code: a.proof.Code}) || len(a.proof.Sides) > 5 {
			t.Fatalf("of %v: %v", c, a.proof)
		}
		for _, s := range a.proof.Sides {
			if !isBounded(a.proof.Sum, s.Sum) {
				t.Fatalf("of %v: %v", c, a.proof)
			}
		}
	}
}

// Promise 1: every argument has an answer, however long a list is or how odd its numbers are.
func TestEveryProofIsAnswered(t *testing.T) {
	far := append(slices.Clone(farNumbers), 0, 1, lastSum)
	texts := []string{"", "/", "/a", "x", strings.Repeat("/", 1<<16), strings.Repeat("/a", 1<<16), "\xff", "/\x00"}
	trees := [][]impl.Znode{nil, {}, treeOf(), wideTree(20), wideTree(21), make([]impl.Znode, 1<<16)}
	for _, n := range far {
		for _, text := range texts {
			z := impl.Znode{Path: text, Data: n, Version: n, Owner: n, Next: n}
			for i, nodes := range append(trees, []impl.Znode{z}, []impl.Znode{{Path: "/"}, z}) {
				for _, many := range []int{0, 1, 8, 9, 1 << 12} {
					c := proofCall{alike(n, many), n, n, nodes, text, z, slices.Repeat([]impl.Side{{Sum: n}}, many), n}
					if got, want := programProof(c), modelProof(c); !sameProofs(got, want) {
						t.Fatalf("of tree %d, %.20q, %d and %d of it: %v, want %v", i, text, n, many, got, want)
					}
				}
			}
		}
	}
}

// checkAgain asks calls over from the last one on, and more than once: what hangs on something else is seldom the same so often.
func checkAgain[C any, A any](t *testing.T, calls []C, ask func(C) A, same func(A, A) bool) {
	t.Helper()
	var first []A
	for _, c := range calls {
		first = append(first, ask(c))
	}
	for range 3 {
		for i, c := range slices.Backward(calls) {
			if again := ask(c); !same(again, first[i]) {
				t.Fatalf("of %v: %v, and at first %v", c, again, first[i])
			}
		}
	}
}

func drawnMany[T any](r *rand.Rand, many int, draw func(*rand.Rand) T) []T {
	var all []T
	for range many {
		all = append(all, draw(r))
	}
	return all
}

// Promise 1: an answer hangs on the arguments alone, so it is the same in whatever order it is asked.
func TestProofAnswersHangOnArgumentsAlone(t *testing.T) {
	r := rand.New(rand.NewPCG(8, 8))
	checkAgain(t, drawnMany(r, 300, drawnProof), programProof, sameProofs)
}

// Promise 1: what is answered is new memory: whoever writes into it, or into what was handed in, turns nothing else.
func TestProofAnswersAreNewMemory(t *testing.T) {
	r := rand.New(rand.NewPCG(10, 10))
	for range 400 {
		nodes := ownNodes(drawnTree(r))
		path := drawn(r, nodes).Path
		first, second := impl.ProveZ(nodes, path), impl.ProveZ(nodes, path)
		want := modelProve(nodes, path)
		whole := first.Sides[:cap(first.Sides)]
		for i := range whole {
			whole[i] = impl.Side{Left: true, Sum: -1}
		}
		if !sameProof(second, want) || !sameProof(impl.ProveZ(nodes, path), want) {
			t.Fatalf("of %v at %s: two answers share their sides", nodes, path)
		}
		clear(nodes)
		if !sameProof(second, want) {
			t.Fatalf("at %s: the answer turned with the nodes that were handed in", path)
		}
	}
}

// roomy lays a list where room is left behind it, for whoever writes there.
func roomy[T any](list []T) []T {
	return append(make([]T, 0, len(list)+4), list...)
}

// Promise 1: no call changes the numbers, nodes or sides that are handed in, nor what lies behind them.
func TestProofArgumentsStayAsTheyAre(t *testing.T) {
	r := rand.New(rand.NewPCG(12, 12))
	for range 800 {
		c := drawnProof(r)
		c.list, c.nodes, c.sides = roomy(c.list), ownNodes(c.nodes), roomy(c.sides)
		list, nodes, sides := c.list[:cap(c.list)], c.nodes[:cap(c.nodes)], c.sides[:cap(c.sides)]
		oldList, oldNodes, oldSides := slices.Clone(list), slices.Clone(nodes), slices.Clone(sides)
		programProof(c)
		if !slices.Equal(list, oldList) || !slices.Equal(nodes, oldNodes) || !slices.Equal(sides, oldSides) {
			t.Fatalf("changed: %v", c)
		}
	}
}
