package tests

import (
	"bytes"
	"maps"
	"math/rand/v2"
	"slices"

	"loop.example/g00369/impl"
)

// The model tells chapter 2 a second time: its tree is a map by path, and is laid out in order only to be told.
type modelTree map[string]impl.Znode

func modelOutside(n int64, most int64) bool {
	return n != min(max(n, 0), most)
}

func modelWrongNumbers(z impl.Znode) bool {
	return modelOutside(z.Data, 9999) || modelOutside(z.Version, 999) || modelOutside(z.Owner, 9) || modelOutside(z.Next, 100)
}

func modelUp(path string) string {
	names := modelNames(path)
	return modelOfNames(names[:len(names)-1])
}

func modelTreeFault(nodes []impl.Znode) int64 {
	if len(nodes) >= 21 {
		return impl.ErrMany
	}
	for i, z := range nodes {
		switch {
		case modelFault(z.Path) != impl.OK:
			return modelFault(z.Path)
		case modelWrongNumbers(z):
			return impl.ErrRange
		case i > 0 && bytes.Compare([]byte(nodes[i-1].Path), []byte(z.Path)) != -1:
			return impl.ErrForm
		}
	}
	tree := modelOf(nodes)
	missing, owned := len(tree) == 0, false
	for _, z := range nodes {
		up := "/"
		if z.Path != "/" {
			up = modelUp(z.Path)
		}
		above, there := tree[up]
		_, top := tree["/"]
		missing = missing || !there || !top
		owned = owned || above.Owner != 0
	}
	switch {
	case missing:
		return impl.ErrNone
	case owned:
		return impl.ErrForm
	}
	return impl.OK
}

func modelOf(nodes []impl.Znode) modelTree {
	tree := modelTree{}
	for _, z := range nodes {
		tree[z.Path] = z
	}
	return tree
}

func (tree modelTree) inOrder() []impl.Znode {
	var nodes []impl.Znode
	for _, path := range slices.Sorted(maps.Keys(tree)) {
		nodes = append(nodes, tree[path])
	}
	return nodes
}

func (tree modelTree) kids(path string) []string {
	var names []string
	for _, z := range tree.inOrder() {
		if z.Path != "/" && modelUp(z.Path) == path {
			names = append(names, modelNameIn(z.Path).Text)
		}
	}
	return names
}

func modelNew(data int64) impl.ZResult {
	if modelOutside(data, 9999) {
		return impl.ZResult{Code: impl.ErrRange}
	}
	return impl.ZResult{Nodes: modelTree{"/": {Path: "/", Data: data}}.inOrder()}
}

// modelAsk is what all but NewTree and SameTrees ask first.
func modelAsk(nodes []impl.Znode, path string) int64 {
	if code := modelTreeFault(nodes); code != impl.OK {
		return code
	}
	return modelFault(path)
}

func modelCreate(nodes []impl.Znode, path string, data int64, owner int64, seq bool) impl.ZResult {
	if code := modelAsk(nodes, path); code != impl.OK {
		return impl.ZResult{Code: code}
	}
	if modelOutside(data, 9999) || modelOutside(owner, 9) {
		return impl.ZResult{Code: impl.ErrRange}
	}
	if path == "/" {
		return impl.ZResult{Code: impl.ErrForm}
	}
	tree, up := modelOf(nodes), modelUp(path)
	parent, there := tree[up]
	switch {
	case !there:
		return impl.ZResult{Code: impl.ErrNone}
	case parent.Owner != 0:
		return impl.ZResult{Code: impl.ErrState}
	}
	if seq {
		if parent.Next > 99 {
			return impl.ZResult{Code: impl.ErrRange}
		}
		name := modelSeq(modelNameIn(path).Text, parent.Next)
		if name.Code != impl.OK {
			return impl.ZResult{Code: name.Code}
		}
		path = modelOfNames(append(modelNames(up), name.Text))
		if code := modelFault(path); code != impl.OK {
			return impl.ZResult{Code: code}
		}
		parent.Next++
		tree[up] = parent
	}
	if _, taken := tree[path]; taken {
		return impl.ZResult{Code: impl.ErrTaken}
	}
	tree[path] = impl.Znode{Path: path, Data: data, Owner: owner}
	if len(tree) > 20 {
		return impl.ZResult{Code: impl.ErrMany}
	}
	return impl.ZResult{Path: path, Nodes: tree.inOrder()}
}

func modelDelete(nodes []impl.Znode, path string, version int64) impl.ZResult {
	if code := modelAsk(nodes, path); code != impl.OK {
		return impl.ZResult{Code: code}
	}
	tree := modelOf(nodes)
	old, there := tree[path]
	switch {
	case path == "/":
		return impl.ZResult{Code: impl.ErrForm}
	case !there:
		return impl.ZResult{Code: impl.ErrNone}
	case version != old.Version && version != -1:
		return impl.ZResult{Code: impl.ErrVersion}
	case tree.kids(path) != nil:
		return impl.ZResult{Code: impl.ErrState}
	}
	delete(tree, path)
	return impl.ZResult{Nodes: tree.inOrder()}
}

func modelSet(nodes []impl.Znode, path string, data int64, version int64) impl.ZResult {
	if code := modelAsk(nodes, path); code != impl.OK {
		return impl.ZResult{Code: code}
	}
	tree := modelOf(nodes)
	old, there := tree[path]
	switch {
	case modelOutside(data, 9999):
		return impl.ZResult{Code: impl.ErrRange}
	case !there:
		return impl.ZResult{Code: impl.ErrNone}
	case version != old.Version && version != -1:
		return impl.ZResult{Code: impl.ErrVersion}
	case old.Version == 999:
		return impl.ZResult{Code: impl.ErrMany}
	}
	tree[path] = impl.Znode{Path: path, Data: data, Version: old.Version + 1, Owner: old.Owner, Next: old.Next}
	return impl.ZResult{Nodes: tree.inOrder()}
}

func modelGet(nodes []impl.Znode, path string) impl.ZResult {
	if code := modelAsk(nodes, path); code != impl.OK {
		return impl.ZResult{Code: code}
	}
	z, there := modelOf(nodes)[path]
	if !there {
		return impl.ZResult{Code: impl.ErrNone}
	}
	return impl.ZResult{Nodes: modelTree{path: z}.inOrder()}
}

func modelKids(nodes []impl.Znode, path string) impl.TextsResult {
	if code := modelAsk(nodes, path); code != impl.OK {
		return impl.TextsResult{Code: code}
	}
	tree := modelOf(nodes)
	if _, there := tree[path]; !there {
		return impl.TextsResult{Code: impl.ErrNone}
	}
	return impl.TextsResult{Texts: tree.kids(path)}
}

// treeCall holds what a tree is asked with.
type treeCall struct {
	path    string
	data    int64
	owner   int64
	version int64
	seq     bool
}

// treeAnswers holds what chapter 2 says of one tree and one call.
type treeAnswers struct {
	fault   int64
	created impl.ZResult
	deleted impl.ZResult
	set     impl.ZResult
	got     impl.ZResult
	kids    impl.TextsResult
	made    impl.ZResult
}

func programTree(nodes []impl.Znode, c treeCall) treeAnswers {
	return treeAnswers{impl.TreeFault(nodes), impl.CreateZ(nodes, c.path, c.data, c.owner, c.seq), impl.DeleteZ(nodes, c.path, c.version), impl.SetZ(nodes, c.path, c.data, c.version), impl.GetZ(nodes, c.path), impl.KidsZ(nodes, c.path), impl.NewTree(c.data)}
}

func modelTreeSays(nodes []impl.Znode, c treeCall) treeAnswers {
	return treeAnswers{modelTreeFault(nodes), modelCreate(nodes, c.path, c.data, c.owner, c.seq), modelDelete(nodes, c.path, c.version), modelSet(nodes, c.path, c.data, c.version), modelGet(nodes, c.path), modelKids(nodes, c.path), modelNew(c.data)}
}

func (a treeAnswers) trees() []impl.ZResult {
	return []impl.ZResult{a.created, a.deleted, a.set, a.got, a.made}
}

func sameZ(a impl.ZResult, b impl.ZResult) bool {
	return a.Code == b.Code && a.Path == b.Path && slices.Equal(a.Nodes, b.Nodes)
}

func sameTexts(a impl.TextsResult, b impl.TextsResult) bool {
	return a.Code == b.Code && slices.Equal(a.Texts, b.Texts)
}

func sameAnswers(a treeAnswers, b treeAnswers) bool {
	return a.fault == b.fault && slices.EqualFunc(a.trees(), b.trees(), sameZ) && sameTexts(a.kids, b.kids)
}

// A pool holds a bound and what lies beside it, so that a draw is often at an edge.
var drawnPaths = []string{"/", "/a", "/a/b", "/a/b/c", "/a/b/c/d", "/a0", "/ab", "/ab/c", "/a/b0", "/b", "/b/abcdef", "/b/abcdefg", "/abcdefgh", "/abcdefgh/abcdefgh", "/abcdefgh/abcdefgh/abcde", "/abcdefgh/abcdefgh/abc", "/c", "/d", "/e", "/f", "/a00", "/a/b00", "/a/b01", "/b/a10"}
var drawnWrongs = []string{"", "a", "/a/", "/A", "/a/b/c/d/e", "/abcdefgh/abcdefgh/abcdef", "/abcdefghi"}
var drawnData = []int64{0, 1, 5, 9998, 9999}
var drawnVersions = []int64{-1, -1, 0, 1, 2, 998, 999}
var drawnOwners = []int64{0, 0, 0, 0, 1, 9}

func drawn[T any](r *rand.Rand, pool []T) T {
	return pool[r.IntN(len(pool))]
}

func drawnCall(r *rand.Rand) treeCall {
	c := treeCall{path: drawn(r, drawnPaths), data: drawn(r, drawnData), owner: drawn(r, drawnOwners), version: drawn(r, drawnVersions), seq: r.IntN(3) == 0}
	switch r.IntN(24) {
	case 0:
		c.path = drawn(r, drawnWrongs)
	case 1:
		c.data = drawn(r, []int64{-1, 10000})
	case 2:
		c.owner = drawn(r, []int64{-1, 10})
	case 3:
		c.version = drawn(r, []int64{-2, 1000})
	}
	return c
}

// grown follows one of the answers to its tree, where there is one.
func grown(r *rand.Rand, nodes []impl.Znode, a treeAnswers) []impl.Znode {
	follow := a.created
	switch r.IntN(8) {
	case 0:
		follow = a.deleted
	case 1, 2:
		follow = a.set
	}
	if follow.Code != impl.OK {
		return nodes
	}
	return follow.Nodes
}

// drawnTree grows a tree by the model alone, and then moves some counts of it to the edges.
func drawnTree(r *rand.Rand) []impl.Znode {
	nodes := modelNew(drawn(r, drawnData)).Nodes
	for range r.IntN(60) {
		nodes = grown(r, nodes, modelTreeSays(nodes, drawnCall(r)))
	}
	for range r.IntN(4) {
		z := &nodes[r.IntN(len(nodes))]
		z.Next = drawn(r, []int64{0, 9, 10, 98, 99, 100})
		z.Version = drawn(r, []int64{0, 1, 997, 998, 999})
	}
	return nodes
}

// spoilt turns one thing of a tree, most often into a fault.
func spoilt(r *rand.Rand, nodes []impl.Znode) []impl.Znode {
	nodes = slices.Clone(nodes)
	if len(nodes) == 0 {
		return nodes
	}
	i, j := r.IntN(len(nodes)), r.IntN(len(nodes))
	switch r.IntN(9) {
	case 0:
		nodes[i].Path = drawn(r, drawnWrongs)
	case 1:
		nodes[i].Data = drawn(r, []int64{-1, 10000})
	case 2:
		nodes[i].Version = drawn(r, []int64{-1, 1000})
	case 3:
		nodes[i].Owner = drawn(r, []int64{-1, 0, 9, 10})
	case 4:
		nodes[i].Next = drawn(r, []int64{-1, 0, 100, 101})
	case 5:
		nodes[i], nodes[j] = nodes[j], nodes[i]
	case 6:
		nodes = slices.Delete(nodes, i, i+1)
	case 7:
		nodes = slices.Insert(nodes, i, nodes[i])
	case 8:
		nodes[i].Path = drawn(r, drawnPaths)
	}
	return nodes
}
