package tests

import (
	"math"
	"strings"
	"testing"
	"unsafe"

	"loop.example/g00369/impl"
)

func TestCodesHaveTheirNumbers(t *testing.T) {
	got := [...]int64{impl.OK, impl.ErrForm, impl.ErrMany, impl.ErrRange, impl.ErrNone, impl.ErrText, impl.ErrTaken, impl.ErrVersion, impl.ErrState, impl.ErrSession, impl.ErrSign}
	if want := [...]int64{0, 1, 2, 3, 4, 5, 6, 7, 8, 9, 10}; got != want {
		t.Errorf("codes %v, want %v", got, want)
	}
	if impl.MaxPath != 24 {
		t.Errorf("MaxPath %d, want 24", impl.MaxPath)
	}
}

func TestPathFault(t *testing.T) {
	cases := []struct {
		path string
		want int64
	}{
		{"/", impl.OK},
		{"/a", impl.OK},
		{"/z9", impl.OK},
		{"/0", impl.OK},
		{"/abcdefgh", impl.OK},
		{"/abcdefghi", impl.ErrText},
		{"/a/abcdefghi", impl.ErrText},
		{"/abcdefghi/a", impl.ErrText},
		{"/a/b/c/d", impl.OK},
		{"/a/b/c/d/e", impl.ErrMany},
		{"/a/b/c/d/", impl.ErrMany},
		{"/abcdefgh/abcdefgh/abcde", impl.OK},       // 24 bytes
		{"/abcdefgh/abcdefgh/abcdef", impl.ErrMany}, // 25 bytes
		{"/abcdefgh/abcde/abcdef/a", impl.OK},       // 24 bytes, four names
		{"/abcdefgh/abcdef/abcdef/a", impl.ErrMany}, // 25 bytes, four names
		{"aaaaaaaaaaaaaaaaaaaaaaaa", impl.ErrText},  // 24 bytes, no path
		{"aaaaaaaaaaaaaaaaaaaaaaaaa", impl.ErrMany}, // 25 bytes, no path
		{"////", impl.ErrText},                      // four slashes, no path
		{"/////", impl.ErrMany},                     // five, no path
		{"a/b/c/d/e", impl.ErrText},                 // four, no path
		{"a/b/c/d/e/f", impl.ErrMany},               // five, no path
		{"", impl.ErrText},
		{"a", impl.ErrText},
		{"a/b", impl.ErrText},
		{" /a", impl.ErrText},
		{"//", impl.ErrText},
		{"//a", impl.ErrText},
		{"/a/", impl.ErrText},
		{"/a//b", impl.ErrText},
		{"/A", impl.ErrText},
		{"/a b", impl.ErrText},
		{"/a.", impl.ErrText},
		{"/`", impl.ErrText}, // the byte ahead of a
		{"/{", impl.ErrText}, // the byte behind z
		{"/:", impl.ErrText}, // the byte behind 9
		{"/a\n", impl.ErrText},
		{"/a\x00", impl.ErrText},
		{"/\xff", impl.ErrText},
		{"/\u00e9", impl.ErrText},
	}
	for _, c := range cases {
		if got := impl.PathFault(c.path); got != c.want {
			t.Errorf("PathFault(%q) = %d, want %d", c.path, got, c.want)
		}
	}
}

func TestParentNameAndDepth(t *testing.T) {
	cases := []struct {
		path   string
		parent impl.TextResult
		name   impl.TextResult
		deep   impl.IntResult
	}{
		{"/", impl.TextResult{Code: impl.ErrNone}, impl.TextResult{Code: impl.ErrNone}, impl.IntResult{}},
		{"/a", impl.TextResult{Text: "/"}, impl.TextResult{Text: "a"}, impl.IntResult{Value: 1}},
		{"/abcdefgh", impl.TextResult{Text: "/"}, impl.TextResult{Text: "abcdefgh"}, impl.IntResult{Value: 1}},
		{"/a/b", impl.TextResult{Text: "/a"}, impl.TextResult{Text: "b"}, impl.IntResult{Value: 2}},
		{"/a/b/c/d", impl.TextResult{Text: "/a/b/c"}, impl.TextResult{Text: "d"}, impl.IntResult{Value: 4}},
		{"/abcdefgh/abcdefgh/abcde", impl.TextResult{Text: "/abcdefgh/abcdefgh"}, impl.TextResult{Text: "abcde"}, impl.IntResult{Value: 3}},
	}
	for _, c := range cases {
		if got := impl.ParentOf(c.path); got != c.parent {
			t.Errorf("ParentOf(%q) = %v, want %v", c.path, got, c.parent)
		}
		if got := impl.NameIn(c.path); got != c.name {
			t.Errorf("NameIn(%q) = %v, want %v", c.path, got, c.name)
		}
		if got := impl.DeepIn(c.path); got != c.deep {
			t.Errorf("DeepIn(%q) = %v, want %v", c.path, got, c.deep)
		}
	}
}

func TestWhatIsNoPathHasNoParts(t *testing.T) {
	cases := []struct {
		path string
		want int64
	}{
		{"", impl.ErrText},
		{"a", impl.ErrText},
		{"/a/", impl.ErrText},
		{"/a//b", impl.ErrText},
		{"/abcdefghi", impl.ErrText},
		{"/a/b/c/d/e", impl.ErrMany},
		{"/abcdefgh/abcdefgh/abcdef", impl.ErrMany},
	}
	for _, c := range cases {
		want := impl.TextResult{Code: c.want}
		if got := impl.ParentOf(c.path); got != want {
			t.Errorf("ParentOf(%q) = %v, want %v", c.path, got, want)
		}
		if got := impl.NameIn(c.path); got != want {
			t.Errorf("NameIn(%q) = %v, want %v", c.path, got, want)
		}
		if got := impl.JoinPath(c.path, "a"); got != want {
			t.Errorf("JoinPath(%q, a) = %v, want %v", c.path, got, want)
		}
		if got := impl.DeepIn(c.path); got != (impl.IntResult{Code: c.want}) {
			t.Errorf("DeepIn(%q) = %v, want the code %d alone", c.path, got, c.want)
		}
	}
}

func TestJoinPath(t *testing.T) {
	cases := []struct {
		path string
		name string
		want impl.TextResult
	}{
		{"/", "a", impl.TextResult{Text: "/a"}},
		{"/", "abcdefgh", impl.TextResult{Text: "/abcdefgh"}},
		{"/a", "b", impl.TextResult{Text: "/a/b"}},
		{"/a/b/c", "d", impl.TextResult{Text: "/a/b/c/d"}},
		{"/a/b/c/d", "e", impl.TextResult{Code: impl.ErrMany}},
		{"/abcdefgh/abcdefgh", "abcde", impl.TextResult{Text: "/abcdefgh/abcdefgh/abcde"}},
		{"/abcdefgh/abcdefgh", "abcdef", impl.TextResult{Code: impl.ErrMany}},
		{"/", "", impl.TextResult{Code: impl.ErrText}},
		{"/", "/", impl.TextResult{Code: impl.ErrText}},
		{"/", "a/b", impl.TextResult{Code: impl.ErrText}},
		{"/", "/a", impl.TextResult{Code: impl.ErrText}},
		{"/", "a/", impl.TextResult{Code: impl.ErrText}},
		{"/a", "A", impl.TextResult{Code: impl.ErrText}},
		{"/a", "abcdefghi", impl.TextResult{Code: impl.ErrText}},
		// A wrong name is told ahead of what the joined path would be.
		{"/a/b/c/d", "", impl.TextResult{Code: impl.ErrText}},
		{"/a/b/c/d", "abcdefghi", impl.TextResult{Code: impl.ErrText}},
		{"/a", "a/b/c/d/e", impl.TextResult{Code: impl.ErrText}},
		{"/a", strings.Repeat("a", 25), impl.TextResult{Code: impl.ErrText}},
		// A wrong path is told ahead of a wrong name.
		{"/a/b/c/d/e", "", impl.TextResult{Code: impl.ErrMany}},
		{"a", "a/b/c/d/e/f", impl.TextResult{Code: impl.ErrText}},
	}
	for _, c := range cases {
		if got := impl.JoinPath(c.path, c.name); got != c.want {
			t.Errorf("JoinPath(%q, %q) = %v, want %v", c.path, c.name, got, c.want)
		}
	}
}

func TestIsUnder(t *testing.T) {
	cases := []struct {
		path string
		top  string
		want bool
	}{
		{"/", "/", true},
		{"/a", "/", true},
		{"/a/b/c/d", "/", true},
		{"/a", "/a", true},
		{"/a/b", "/a", true},
		{"/a/b/c", "/a", true},
		{"/a/b/c", "/a/b", true},
		{"/", "/a", false},
		{"/a", "/a/b", false},
		{"/ab", "/a", false},
		{"/a", "/ab", false},
		{"/ab/c", "/a", false},
		{"/a/bc", "/a/b", false},
		{"/b/a", "/a", false},
		{"", "", false},
		{"", "/", false},
		{"/", "", false},
		{"/a", "", false},
		{"a", "/", false},
		{"a", "a", false},
		{"/a/", "/a", false},
		{"/a/", "/a/", false},
		{"/a/b", "/a/", false},
		{"/A", "/", false},
		{"/A/b", "/A", false},
		{"/a/b/c/d/e", "/a", false},
		{"/a/b/c/d/e", "/", false},
		{"/a/b/c/d/e", "/a/b/c/d/e", false},
	}
	for _, c := range cases {
		if got := impl.IsUnder(c.path, c.top); got != c.want {
			t.Errorf("IsUnder(%q, %q) = %v, want %v", c.path, c.top, got, c.want)
		}
	}
}

func TestSeqName(t *testing.T) {
	cases := []struct {
		name string
		n    int64
		want impl.TextResult
	}{
		{"lock", 7, impl.TextResult{Text: "lock07"}},
		{"a", 0, impl.TextResult{Text: "a00"}},
		{"a", 9, impl.TextResult{Text: "a09"}},
		{"a", 10, impl.TextResult{Text: "a10"}},
		{"a", 99, impl.TextResult{Text: "a99"}},
		{"a", -1, impl.TextResult{Code: impl.ErrRange}},
		{"a", 100, impl.TextResult{Code: impl.ErrRange}},
		{"a", math.MinInt64, impl.TextResult{Code: impl.ErrRange}},
		{"a", math.MaxInt64, impl.TextResult{Code: impl.ErrRange}},
		{"abcdef", 42, impl.TextResult{Text: "abcdef42"}},
		{"abcdefg", 42, impl.TextResult{Code: impl.ErrText}},
		{"abcdefgh", 42, impl.TextResult{Code: impl.ErrText}},
		{"abcdefghi", 42, impl.TextResult{Code: impl.ErrText}},
		{"", 42, impl.TextResult{Code: impl.ErrText}},
		{"/a", 42, impl.TextResult{Code: impl.ErrText}},
		{"a/b", 42, impl.TextResult{Code: impl.ErrText}},
		{"A", 42, impl.TextResult{Code: impl.ErrText}},
		// A number out of bounds is told ahead of a name that gets too long, and behind one that is none.
		{"abcdefg", 100, impl.TextResult{Code: impl.ErrRange}},
		{"abcdefgh", -1, impl.TextResult{Code: impl.ErrRange}},
		{"abcdefghi", 100, impl.TextResult{Code: impl.ErrText}},
		{"", -1, impl.TextResult{Code: impl.ErrText}},
	}
	for _, c := range cases {
		if got := impl.SeqName(c.name, c.n); got != c.want {
			t.Errorf("SeqName(%q, %d) = %v, want %v", c.name, c.n, got, c.want)
		}
	}
}

func TestPathsAreWhatTheModelTells(t *testing.T) {
	names := []string{"a", "", "abcde", "abcdef", "abcdefgh", "abcdefghi", "a/b", "A", "/a", "/"}
	numbers := []int64{-1, 0, 9, 10, 99, 100}
	for i, text := range manyTexts() {
		for j, name := range names {
			n := numbers[(i+j)%len(numbers)]
			if got, want := programAnswers(text, name, n), modelAnswers(text, name, n); got != want {
				t.Fatalf("of %q, %q, %d: %v, want %v", text, name, n, got, want)
			}
		}
	}
}

func TestEachNumberHasItsName(t *testing.T) {
	for n := int64(-3); n < 103; n++ {
		for _, name := range []string{"a", "abcde", "abcdef", "abcdefg", "abcdefgh", "abcdefghi", ""} {
			if got, want := impl.SeqName(name, n), modelSeq(name, n); got != want {
				t.Errorf("SeqName(%q, %d) = %v, want %v", name, n, got, want)
			}
		}
	}
}

// Promise 2, the first half: a path is its parent and its last name.
func TestPathIsParentAndName(t *testing.T) {
	paths := 0
	for _, path := range manyTexts() {
		if impl.PathFault(path) != impl.OK || path == "/" {
			continue
		}
		paths++
		parent, name := impl.ParentOf(path), impl.NameIn(path)
		if parent.Code != impl.OK || name.Code != impl.OK {
			t.Fatalf("%q: parent %v, name %v", path, parent, name)
		}
		if got := impl.JoinPath(parent.Text, name.Text); got != (impl.TextResult{Text: path}) {
			t.Fatalf("JoinPath(%q, %q) = %v, want %q", parent.Text, name.Text, got, path)
		}
		if impl.DeepIn(path).Value != impl.DeepIn(parent.Text).Value+1 {
			t.Fatalf("%q is not one deeper than its parent", path)
		}
	}
	if paths < 100 {
		t.Errorf("only %d paths were looked at", paths)
	}
}

func TestJoinedIsTakenApart(t *testing.T) {
	names := []string{"a", "9", "abcde", "abcdefgh"}
	for _, path := range manyTexts() {
		for _, name := range names {
			joined := impl.JoinPath(path, name)
			if joined.Code != impl.OK {
				continue
			}
			if got := impl.ParentOf(joined.Text); got != (impl.TextResult{Text: path}) {
				t.Fatalf("ParentOf(%q) = %v, want %q", joined.Text, got, path)
			}
			if got := impl.NameIn(joined.Text); got != (impl.TextResult{Text: name}) {
				t.Fatalf("NameIn(%q) = %v, want %q", joined.Text, got, name)
			}
		}
	}
}

// Promise 2, the second half: who climbs from parent to parent meets what a path is under, and nothing else.
func TestUnderIsByParents(t *testing.T) {
	texts := append(shortTexts("/ab", 6), "/a/b/a/b", "/ab/ab/ab/ab", "/abcdefgh/abcdefgh/abcde")
	for _, path := range texts {
		if impl.PathFault(path) != impl.OK {
			continue
		}
		above := map[string]bool{path: true}
		for up := impl.ParentOf(path); up.Code == impl.OK; up = impl.ParentOf(up.Text) {
			above[up.Text] = true
		}
		for _, top := range texts {
			if got := impl.IsUnder(path, top); got != above[top] {
				t.Fatalf("IsUnder(%q, %q) = %v", path, top, got)
			}
		}
	}
}

// Promise 1: every argument has an answer, however long or odd it is.
func TestEveryArgumentIsAnswered(t *testing.T) {
	texts := []string{strings.Repeat("/", 1<<20), strings.Repeat("a", 1<<20), strings.Repeat("/a", 1<<20), strings.Repeat("\x00", 1<<20), strings.Repeat("\xff", 25)}
	for _, text := range append(texts, byteTexts()...) {
		for _, n := range []int64{math.MinInt64, -1, 0, math.MaxInt64} {
			if got, want := programAnswers(text, text, n), modelAnswers(text, text, n); got != want {
				t.Fatalf("of %d bytes %.20q and %d: %v, want %v", len(text), text, n, got, want)
			}
		}
		if got, want := impl.JoinPath("/", text), modelJoin("/", text); got != want {
			t.Fatalf("JoinPath(/, %.20q) = %v, want %v", text, got, want)
		}
	}
}

// Promise 1: an answer hangs on the arguments alone, so it is the same in whatever order it is asked.
func TestAnswersHangOnArgumentsAlone(t *testing.T) {
	texts := manyTexts()
	first := make([]pathAnswers, len(texts))
	for i, text := range texts {
		first[i] = programAnswers(text, "a", int64(i%100))
	}
	for i := len(texts) - 1; i >= 0; i-- {
		if again := programAnswers(texts[i], "a", int64(i%100)); again != first[i] {
			t.Fatalf("of %q: %v, and at first %v", texts[i], again, first[i])
		}
	}
}

func sharesMemory(a string, b string) bool {
	if a == "" || b == "" {
		return false
	}
	fromA, fromB := uintptr(unsafe.Pointer(unsafe.StringData(a))), uintptr(unsafe.Pointer(unsafe.StringData(b)))
	return fromA < fromB+uintptr(len(b)) && fromB < fromA+uintptr(len(a))
}

// Promise 1: an answer is new memory, and arguments stay as they are.
func TestAnswersAreNewMemory(t *testing.T) {
	for _, text := range []string{"/", "/a", "/a/b", "/abcdefgh/abcdefgh/abcde", "/a/b/c/d", "a", "abcdef", "abcdefgh", "/a/"} {
		for _, other := range []string{"a", "abcdefgh", "/a", ""} {
			path, name := strings.Clone(text), strings.Clone(other)
			got := programAnswers(path, name, 5)
			for _, answer := range []string{got.parent.Text, got.name.Text, got.joined.Text, got.seq.Text} {
				if sharesMemory(answer, path) || sharesMemory(answer, name) {
					t.Errorf("of %q and %q: %q shares memory with an argument", text, other, answer)
				}
			}
			if path != text || name != other {
				t.Errorf("%q and %q were changed to %q and %q", text, other, path, name)
			}
		}
	}
}
