package tests

import (
	"math/big"
	"math/rand/v2"
	"slices"

	"loop.example/g00369/impl"
)

// The model tells chapter 3 a second time: a sum is one great number of which SumBound leaves something once, at the end.
func modelSum(list []int64) impl.IntResult {
	if len(list) >= 201 {
		return impl.IntResult{Code: impl.ErrMany}
	}
	great, power := new(big.Int), big.NewInt(1)
	for _, number := range slices.Backward(list) {
		if modelOutside(number, 1000002) {
			return impl.IntResult{Code: impl.ErrRange}
		}
		great.Add(great, new(big.Int).Mul(power, big.NewInt(number+1)))
		power.Mul(power, big.NewInt(31))
	}
	great.Add(great, power.Mul(power, big.NewInt(7)))
	return impl.IntResult{Value: great.Mod(great, big.NewInt(1000003)).Int64()}
}

func modelPair(a int64, b int64) impl.IntResult {
	return modelSum([]int64{1, a, b})
}

func modelLeaf(z impl.Znode) impl.IntResult {
	switch {
	case modelFault(z.Path) != impl.OK:
		return impl.IntResult{Code: modelFault(z.Path)}
	case modelWrongNumbers(z):
		return impl.IntResult{Code: impl.ErrRange}
	}
	numbers := []int64{0, z.Data, z.Version, z.Owner, z.Next}
	for i := range len(z.Path) {
		numbers = append(numbers, int64(z.Path[i]))
	}
	return modelSum(numbers)
}

func modelLeaves(nodes []impl.Znode) []int64 {
	var leaves []int64
	for _, z := range nodes {
		leaves = append(leaves, modelLeaf(z).Value)
	}
	return leaves
}

// modelSplit is where the last pair parts its leaves: all rows over the greatest power of two below them have none left over.
func modelSplit(many int) int {
	split := 1
	for split*2 < many {
		split *= 2
	}
	return split
}

// modelTop goes from the root down, where the program goes from the leaves up.
func modelTop(leaves []int64) int64 {
	if len(leaves) == 1 {
		return leaves[0]
	}
	split := modelSplit(len(leaves))
	return modelPair(modelTop(leaves[:split]), modelTop(leaves[split:])).Value
}

func modelSides(leaves []int64, at int) []impl.Side {
	if len(leaves) == 1 {
		return nil
	}
	split := modelSplit(len(leaves))
	if at < split {
		return append(modelSides(leaves[:split], at), impl.Side{Sum: modelTop(leaves[split:])})
	}
	return append(modelSides(leaves[split:], at-split), impl.Side{Left: true, Sum: modelTop(leaves[:split])})
}

func modelRoot(nodes []impl.Znode) impl.IntResult {
	if code := modelTreeFault(nodes); code != impl.OK {
		return impl.IntResult{Code: code}
	}
	return impl.IntResult{Value: modelTop(modelLeaves(nodes))}
}

func modelProve(nodes []impl.Znode, path string) impl.ProofResult {
	if code := modelAsk(nodes, path); code != impl.OK {
		return impl.ProofResult{Code: code}
	}
	at := slices.Index(textsIn(nodes), path)
	if at < 0 {
		return impl.ProofResult{Code: impl.ErrNone}
	}
	return impl.ProofResult{Sum: modelLeaf(nodes[at]).Value, Sides: modelSides(modelLeaves(nodes), at)}
}

// modelHasSums tells whether sides lead anywhere from z.
func modelHasSums(z impl.Znode, sides []impl.Side) bool {
	wrong := func(s impl.Side) bool { return modelOutside(s.Sum, 1000002) }
	return modelLeaf(z).Code == impl.OK && !slices.ContainsFunc(sides, wrong)
}

func modelCheck(z impl.Znode, sides []impl.Side, root int64) bool {
	return len(sides) < 9 && modelHasSums(z, sides) && modelLed(z, sides) == root
}

// modelLed is where sides lead; it is asked only where there are sums.
func modelLed(z impl.Znode, sides []impl.Side) int64 {
	at := modelLeaf(z).Value
	for _, s := range sides {
		pair := [2]int64{at, s.Sum}
		if s.Left {
			pair = [2]int64{s.Sum, at}
		}
		at = modelPair(pair[0], pair[1]).Value
	}
	return at
}

// proofCall holds what chapter 3 is asked with.
type proofCall struct {
	list  []int64
	a, b  int64
	nodes []impl.Znode
	path  string
	z     impl.Znode
	sides []impl.Side
	root  int64
}

// proofAnswers holds what chapter 3 says of one call.
type proofAnswers struct {
	sum   impl.IntResult
	pair  impl.IntResult
	leaf  impl.IntResult
	root  impl.IntResult
	proof impl.ProofResult
	right bool
}

func programProof(c proofCall) proofAnswers {
	return proofAnswers{impl.SumOf(c.list), impl.PairSum(c.a, c.b), impl.LeafSum(c.z), impl.RootOf(c.nodes), impl.ProveZ(c.nodes, c.path), impl.CheckProof(c.z, c.sides, c.root)}
}

func modelProof(c proofCall) proofAnswers {
	return proofAnswers{modelSum(c.list), modelPair(c.a, c.b), modelLeaf(c.z), modelRoot(c.nodes), modelProve(c.nodes, c.path), modelCheck(c.z, c.sides, c.root)}
}

func sameProof(a impl.ProofResult, b impl.ProofResult) bool {
	return a.Code == b.Code && a.Sum == b.Sum && slices.Equal(a.Sides, b.Sides)
}

func sameProofs(a proofAnswers, b proofAnswers) bool {
	return a.sum == b.sum && a.pair == b.pair && a.leaf == b.leaf && a.root == b.root && sameProof(a.proof, b.proof) && a.right == b.right
}

var drawnWrongSums = []int64{-1, 1000003, 1000004}

func drawnSum(r *rand.Rand) int64 {
	if r.IntN(2) == 0 {
		return drawn(r, []int64{0, 1, 1000001, 1000002})
	}
	return r.Int64N(1000003)
}

func drawnList(r *rand.Rand) []int64 {
	var list []int64
	for range drawn(r, []int{0, 1, 2, 3, 7, 20, 199, 200, 201}) {
		list = append(list, drawnSum(r))
	}
	if len(list) > 0 && r.IntN(6) == 0 {
		list[r.IntN(len(list))] = drawn(r, drawnWrongSums)
	}
	return list
}

// turnedSides turns one thing of a proof, most often into one that leads elsewhere.
func turnedSides(r *rand.Rand, sides []impl.Side) []impl.Side {
	sides = slices.Clone(sides)
	added := impl.Side{Left: r.IntN(2) == 0, Sum: drawnSum(r)}
	if len(sides) == 0 {
		return append(sides, added)
	}
	i, j := r.IntN(len(sides)), r.IntN(len(sides))
	switch r.IntN(7) {
	case 0:
		sides[i].Sum = drawnSum(r)
	case 1:
		sides[i].Sum = drawn(r, drawnWrongSums)
	case 2:
		sides[i].Left = !sides[i].Left
	case 3:
		sides[i], sides[j] = sides[j], sides[i]
	case 4:
		sides = slices.Delete(sides, i, i+1)
	case 5:
		sides = slices.Insert(sides, i, added)
	case 6:
		for len(sides) < 7+r.IntN(4) {
			sides = append(sides, added)
		}
	}
	return sides
}

// drawnProof draws a tree and a node of it with its proof, and then turns some of them.
func drawnProof(r *rand.Rand) proofCall {
	nodes := drawnTree(r)
	at := r.IntN(len(nodes))
	leaves := modelLeaves(nodes)
	c := proofCall{list: drawnList(r), a: drawnSum(r), b: drawnSum(r), nodes: nodes, path: nodes[at].Path, z: nodes[at], sides: modelSides(leaves, at), root: modelTop(leaves)}
	for range r.IntN(3) {
		switch r.IntN(8) {
		case 0:
			c.path = drawn(r, drawnPaths)
		case 1:
			c.path = drawn(r, drawnWrongs)
		case 2:
			c.nodes = spoilt(r, c.nodes)
		case 3:
			c.z = spoilt(r, []impl.Znode{c.z, c.z})[0]
		case 4, 5:
			c.sides = turnedSides(r, c.sides)
		case 6:
			c.root = drawnSum(r)
		case 7:
			c.a, c.b = drawn(r, drawnWrongSums), c.a
		}
	}
	// What was turned leads somewhere too: that is where it is right.
	if r.IntN(2) == 0 && modelHasSums(c.z, c.sides) {
		c.root = modelLed(c.z, c.sides)
	}
	return c
}
