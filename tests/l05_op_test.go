package tests

import (
	"math"
	"math/rand/v2"
	"slices"
	"strings"
	"testing"

	"loop.example/g00369/impl"
)

func textOf(text string) impl.TextResult {
	return impl.TextResult{Text: text}
}

func noText(code int64) impl.TextResult {
	return impl.TextResult{Code: code}
}

func create(path string, data int64) impl.Op {
	return impl.Op{Kind: impl.OpCreate, Path: path, Data: data}
}

func deleteOf(path string, version int64) impl.Op {
	return impl.Op{Kind: impl.OpDelete, Path: path, Version: version}
}

func setOf(path string, data int64, version int64) impl.Op {
	return impl.Op{Kind: impl.OpSet, Path: path, Data: data, Version: version}
}

func getOf(path string) impl.Op {
	return impl.Op{Kind: impl.OpGet, Path: path}
}

func kidsOf(path string) impl.Op {
	return impl.Op{Kind: impl.OpKids, Path: path}
}

func checkOf(path string, version int64) impl.Op {
	return impl.Op{Kind: impl.OpCheck, Path: path, Version: version}
}

func withSeq(o impl.Op) impl.Op {
	o.Seq = true
	return o
}

func withOwn(o impl.Op) impl.Op {
	o.Own = true
	return o
}

func withVersion(o impl.Op, version int64) impl.Op {
	o.Version = version
	return o
}

func withData(o impl.Op, data int64) impl.Op {
	o.Data = data
	return o
}

func withPath(o impl.Op, path string) impl.Op {
	o.Path = path
	return o
}

var opOpen = impl.Op{Kind: impl.OpOpen}
var opClose = impl.Op{Kind: impl.OpClose}

// oneOfEach has an operation of each kind, in the order of the kinds, each with something of all that its kind has.
var oneOfEach = []impl.Op{opOpen, opClose, withSeq(withOwn(create("/a", 5))), deleteOf("/a", 3), setOf("/a", 5, 3), getOf("/a"), kidsOf("/a"), checkOf("/a", 3)}

func TestOpBounds(t *testing.T) {
	kinds := []int64{impl.OpOpen, impl.OpClose, impl.OpCreate, impl.OpDelete, impl.OpSet, impl.OpGet, impl.OpKids, impl.OpCheck}
	if !slices.Equal(kinds, []int64{1, 2, 3, 4, 5, 6, 7, 8}) || impl.MaxOps != 3 {
		t.Errorf("kinds %v, MaxOps %d, want 1 to 8 and 3", kinds, impl.MaxOps)
	}
}

// checkOp asks for the fault of an operation, and that its text has the same code and nothing else.
func checkOp(t *testing.T, name string, o impl.Op, want int64) {
	t.Helper()
	if got := impl.OpFault(o); got != want {
		t.Errorf("%s: OpFault of %+v: %d, want %d", name, o, got, want)
	}
	text := impl.OpText(o)
	if text.Code != want || (text.Text == "") != (want != impl.OK) {
		t.Errorf("%s: OpText of %+v: %+v, want the code %d", name, o, text, want)
	}
}

func TestOpFaultAsksTheKind(t *testing.T) {
	for _, kind := range []int64{0, 9, -1, -8, 10, 256 + 1, 1<<32 + 6, math.MinInt64, math.MinInt64 + 1, math.MaxInt64} {
		checkOp(t, "no kind, nothing else", impl.Op{Kind: kind}, impl.ErrForm)
		for _, o := range oneOfEach {
			o.Kind = kind
			checkOp(t, "no kind", o, impl.ErrForm)
		}
	}
	for i, o := range oneOfEach {
		if o.Kind != int64(i)+1 {
			t.Fatalf("%+v stands at %d", o, i)
		}
		checkOp(t, "one of each", o, impl.OK)
	}
}

// opThings are what an operation may have, and which kinds have it.
var opThings = []struct {
	name string
	give func(impl.Op) []impl.Op
	had  []int64
}{
	{"a Path", givePaths("/", "/b", "x", "/a/", strings.Repeat("a", 25)), []int64{impl.OpCreate, impl.OpDelete, impl.OpSet, impl.OpGet, impl.OpKids, impl.OpCheck}},
	{"a Data", giveNumbers(withData, 1, 9999, -1, 10000, math.MinInt64, math.MaxInt64), []int64{impl.OpCreate, impl.OpSet}},
	{"a Version", giveNumbers(withVersion, -1, 1, 999, -2, 1000, math.MinInt64, math.MaxInt64), []int64{impl.OpDelete, impl.OpSet, impl.OpCheck}},
	{"Seq", func(o impl.Op) []impl.Op { return []impl.Op{withSeq(o)} }, []int64{impl.OpCreate}},
	{"Own", func(o impl.Op) []impl.Op { return []impl.Op{withOwn(o)} }, []int64{impl.OpCreate}},
}

func givePaths(paths ...string) func(impl.Op) []impl.Op {
	return func(o impl.Op) []impl.Op {
		var all []impl.Op
		for _, path := range paths {
			all = append(all, withPath(o, path))
		}
		return all
	}
}

func giveNumbers(with func(impl.Op, int64) impl.Op, numbers ...int64) func(impl.Op) []impl.Op {
	return func(o impl.Op) []impl.Op {
		var all []impl.Op
		for _, n := range numbers {
			all = append(all, with(o, n))
		}
		return all
	}
}

func TestNoKindHasMoreThanItHas(t *testing.T) {
	for _, thing := range opThings {
		for _, o := range oneOfEach {
			if slices.Contains(thing.had, o.Kind) {
				continue
			}
			for _, more := range thing.give(o) {
				checkOp(t, "with "+thing.name, more, impl.ErrForm)
			}
			// That the rest is missing is no fault yet where this is asked.
			for _, more := range thing.give(impl.Op{Kind: o.Kind}) {
				checkOp(t, "with "+thing.name+" alone", more, impl.ErrForm)
			}
		}
	}
}

func TestOpFaultAsksPaths(t *testing.T) {
	cases := []struct {
		path string
		want int64
	}{
		{"/", impl.OK},
		{"/a", impl.OK},
		{"/a/b/c/d", impl.OK},
		{"/abcdefgh/abcdefgh/abcde", impl.OK},
		{"", impl.ErrText},
		{"a", impl.ErrText},
		{"/A", impl.ErrText},
		{"/a/", impl.ErrText},
		{"/a b", impl.ErrText},
		{"/a\n", impl.ErrText},
		{"/abcdefghi", impl.ErrText},
		{"/\xff", impl.ErrText},
		{"/a/b/c/d/e", impl.ErrMany},
		{"/////", impl.ErrMany},
		{"/abcdefgh/abcdefgh/abcdef", impl.ErrMany},
		{strings.Repeat("a", 25), impl.ErrMany},
		{strings.Repeat("a", 1<<16), impl.ErrMany},
	}
	for _, c := range cases {
		for _, o := range oneOfEach[2:] {
			checkOp(t, "a path", withPath(o, c.path), c.want)
			checkOp(t, "a path and nothing else", impl.Op{Kind: o.Kind, Path: c.path}, c.want)
		}
	}
}

func TestOpFaultAsksNumbers(t *testing.T) {
	code := func(right bool) int64 {
		if right {
			return impl.OK
		}
		return impl.ErrRange
	}
	for _, n := range []int64{math.MinInt64, -9999, -2, -1, 0, 1, 998, 999, 1000, 9998, 9999, 10000, 65536, 1 << 32, math.MaxInt64} {
		data, version := code(n >= 0 && n <= 9999), code(n >= -1 && n <= 999)
		checkOp(t, "Data of a create", create("/a", n), data)
		checkOp(t, "Data of a create with both", withSeq(withOwn(create("/a", n))), data)
		checkOp(t, "Data of a set", setOf("/a", n, 0), data)
		checkOp(t, "Version of a set", setOf("/a", 0, n), version)
		checkOp(t, "Version of a delete", deleteOf("/a", n), version)
		checkOp(t, "Version of a check", checkOf("/a", n), version)
		checkOp(t, "both of a set", setOf("/a", n, n), max(data, version))
	}
}

func TestOpFaultTellsTheFirstCode(t *testing.T) {
	cases := []struct {
		name string
		o    impl.Op
		want int64
	}{
		{"too much ahead of a path", withSeq(getOf("/A")), impl.ErrForm},
		{"too much ahead of a path that is long", withVersion(kidsOf("/a/b/c/d/e"), -1), impl.ErrForm},
		{"too much ahead of a number", withOwn(setOf("/a", -1, 0)), impl.ErrForm},
		{"a wrong number where none is", withData(getOf("/a"), 10000), impl.ErrForm},
		{"a wrong number where none is, behind a wrong path", withVersion(create("/A", -1), 1000), impl.ErrForm},
		{"a wrong path where none is", withPath(opOpen, "/A"), impl.ErrForm},
		{"no kind ahead of a path", impl.Op{Kind: 9, Path: "/A"}, impl.ErrForm},
		{"no kind ahead of a number", impl.Op{Kind: 0, Path: "/a", Data: -1}, impl.ErrForm},
		{"a path ahead of Data", create("/A", -1), impl.ErrText},
		{"a long path ahead of Data", create("/a/b/c/d/e", 10000), impl.ErrMany},
		{"a path ahead of Version", deleteOf("a", -2), impl.ErrText},
		{"a long path ahead of Version", checkOf("/////", 1000), impl.ErrMany},
		{"a path ahead of both", setOf("", -1, -2), impl.ErrText},
		{"no path at all, ahead of both", setOf("", 10000, 1000), impl.ErrText},
	}
	for _, c := range cases {
		checkOp(t, c.name, c.o, c.want)
	}
}

type opTextCase struct {
	o    impl.Op
	text string
}

// opTexts are written out by hand.
var opTexts = []opTextCase{
	{opOpen, "open"},
	{opClose, "close"},
	{create("/a", 5), "create /a 5"},
	{create("/", 0), "create / 0"},
	{create("/a", 9999), "create /a 9999"},
	{create("/abcdefgh/abcdefgh/abcde", 1000), "create /abcdefgh/abcdefgh/abcde 1000"},
	{withSeq(create("/a", 5)), "create /a 5 seq"},
	{withOwn(create("/a", 5)), "create /a 5 own"},
	{withSeq(withOwn(create("/a", 5))), "create /a 5 seq own"},
	{withSeq(withOwn(create("/seq/own", 0))), "create /seq/own 0 seq own"},
	{withOwn(create("/any", 0)), "create /any 0 own"},
	{deleteOf("/a", -1), "delete /a any"},
	{deleteOf("/a", 0), "delete /a 0"},
	{deleteOf("/a/b/c/d", 999), "delete /a/b/c/d 999"},
	{deleteOf("/any", -1), "delete /any any"},
	{setOf("/a", 0, 0), "set /a 0 0"},
	{setOf("/a", 0, -1), "set /a 0 any"},
	{setOf("/a", 9999, -1), "set /a 9999 any"},
	{setOf("/a", 9999, 999), "set /a 9999 999"},
	{setOf("/a", 1, 2), "set /a 1 2"},
	{setOf("/a", 2, 1), "set /a 2 1"},
	{setOf("/", 10, 10), "set / 10 10"},
	{getOf("/"), "get /"},
	{getOf("/a"), "get /a"},
	{getOf("/0/00"), "get /0/00"},
	{getOf("/a/b/c/d"), "get /a/b/c/d"},
	{kidsOf("/"), "kids /"},
	{kidsOf("/kids"), "kids /kids"},
	{checkOf("/a", -1), "check /a any"},
	{checkOf("/a", 0), "check /a 0"},
	{checkOf("/a", 1), "check /a 1"},
	{checkOf("/a", 100), "check /a 100"},
	{checkOf("/", 999), "check / 999"},
}

func TestOpTextAndBack(t *testing.T) {
	for _, c := range opTexts {
		if got := impl.OpText(c.o); got != textOf(c.text) {
			t.Errorf("OpText of %+v: %+v, want %q", c.o, got, c.text)
		}
		if got := impl.ParseOp(c.text); got != (impl.OpResult{Op: c.o}) {
			t.Errorf("ParseOp of %q: %+v, want %+v", c.text, got, c.o)
		}
	}
}

func checkUnread(t *testing.T, name string, text string) {
	t.Helper()
	if got := impl.ParseOp(text); got != (impl.OpResult{Code: impl.ErrText}) {
		t.Errorf("%s: ParseOp of %d bytes %.60q: %+v, want ErrText alone", name, len(text), text, got)
	}
}

func TestWordsInAnotherOrderAreNotRead(t *testing.T) {
	for _, text := range []string{
		"create /a 5 own seq",
		"create /a seq 5",
		"create /a own 5",
		"create /a seq 5 own",
		"create seq /a 5",
		"create own /a 5",
		"seq create /a 5",
		"own create /a 5",
		"create 5 /a",
		"create 5 /a seq own",
		"/a create 5",
		"set /a any 5",
		"set /a any any",
		"set any /a 5",
		"set 5 /a any",
		"set 5 any /a",
		"set /a 1 1000",
		"delete any /a",
		"delete 0 /a",
		"check any /a",
		"check 7 /a",
		"/a get",
		"/ kids",
		"/a 5 set any",
	} {
		checkUnread(t, "another order", text)
	}
	// A Version stands behind a Data, so these are two operations.
	if one, other := impl.ParseOp("set /a 7 3").Op, impl.ParseOp("set /a 3 7").Op; one != setOf("/a", 7, 3) || other != setOf("/a", 3, 7) {
		t.Errorf("set /a 7 3: %+v, set /a 3 7: %+v", one, other)
	}
}

func TestTooFewAndTooManyWordsAreNotRead(t *testing.T) {
	for _, c := range opTexts {
		words := strings.Split(c.text, " ")
		checkUnread(t, "a word ahead", "open "+c.text)
		checkUnread(t, "a word behind", c.text+" x")
		checkUnread(t, "all twice", c.text+" "+c.text)
		checkUnread(t, "another one behind", c.text+" ; open")
		for i := range words {
			checkUnread(t, "a word twice", strings.Join(slices.Insert(slices.Clone(words), i, words[i]), " "))
			if i > 2 && (words[i] == "seq" || words[i] == "own") {
				continue
			}
			checkUnread(t, "a word too few", strings.Join(slices.Delete(slices.Clone(words), i, i+1), " "))
		}
	}
	for _, text := range []string{
		"create", "create /a", "create 5", "create /a seq", "create /a own", "create /a seq own",
		"create /a 5 seq seq", "create /a 5 own own", "create /a 5 seq own own", "create /a 5 seq seq own", "create /a 5 seq own seq", "create /a 5 own seq own",
		"create /a 5 any", "create /a 5 0", "create /a 5 5", "create /a 5 seq 0", "create /a 5 seq own any",
		"delete", "delete /a", "delete any", "delete /a any any", "delete /a 5 5", "delete /a any seq", "delete /a 0 own",
		"set", "set /a", "set /a 5", "set /a any", "set 5 any", "set /a 5 any any", "set /a 5 5 5", "set /a 5 any own",
		"get", "get /a /a", "get /a any", "get /a 0", "get /a seq",
		"kids", "kids / /", "kids /a 0", "kids /a any",
		"check", "check /a", "check /a 0 0", "check /a any any",
		"open /", "open /a", "open 0", "open open", "open close", "open own", "close /", "close any", "close close",
	} {
		checkUnread(t, "a word too few or too many", text)
	}
}

func TestBlanksThatAreNotOneBetweenAreNotRead(t *testing.T) {
	for _, c := range opTexts {
		for _, one := range []string{" ", "  ", "\t", "\n", "\r", "\r\n", "\v", "\f", "\x00", "\u00a0", "\u2003", ";", ",", "\""} {
			checkUnread(t, "ahead of all", one+c.text)
			checkUnread(t, "behind all", c.text+one)
			checkUnread(t, "on both sides", one+c.text+one)
			if one != " " && strings.Contains(c.text, " ") {
				checkUnread(t, "between", strings.Replace(c.text, " ", one, 1))
				checkUnread(t, "between all", strings.ReplaceAll(c.text, " ", one))
				last := strings.LastIndex(c.text, " ")
				checkUnread(t, "ahead of the last one", c.text[:last]+one+c.text[last+1:])
			}
		}
		if strings.Contains(c.text, " ") {
			checkUnread(t, "no blank", strings.ReplaceAll(c.text, " ", ""))
			checkUnread(t, "one blank too few", strings.Replace(c.text, " ", "", 1))
		}
	}
	for _, text := range []string{"", " ", "  ", "     ", "\n", "\x00", "get  /a", "create /a 5  own", "create /a 5 seq  own", "set /a 5  any", "open ", " open"} {
		checkUnread(t, "blanks", text)
	}
}

func TestOtherLettersAreNotRead(t *testing.T) {
	for _, c := range opTexts {
		for i, b := range []byte(c.text) {
			if b >= 'a' && b <= 'z' {
				checkUnread(t, "a great letter", c.text[:i]+strings.ToUpper(c.text[i:i+1])+c.text[i+1:])
			}
			for _, odd := range []string{"\x80", "\xff", "\u00e9", "\u0430", "\x00", "\x7f", "_", "-"} {
				checkUnread(t, "an odd byte", c.text[:i]+odd+c.text[i+1:])
				checkUnread(t, "an odd byte more", c.text[:i]+odd+c.text[i:])
			}
		}
	}
	for _, text := range []string{"o", "ope", "opens", "OPEN", "Open", "clos", "closed", "creat", "creates /a 5", "make /a 5", "del /a any", "ge /a", "gets /a", "kid /a", "list /a", "exists /a", "chec /a any", "1", "3 /a 5", "6 /a", "delete /a Any", "delete /a ANY", "delete /a an", "delete /a anyy", "delete /a all", "delete /a *", "create /a 5 Seq", "create /a 5 OWN", "create /a 5 se", "create /a 5 seqown", "create /a 5 true", "create /a 5 seq true"} {
		checkUnread(t, "other words", text)
	}
}

// wrongNumbers are not written as numbers are, or are none, or lie beyond all bounds.
var wrongNumbers = []string{"00", "01", "007", "0000", "00000", "0999", "+0", "+7", "-0", "-1", "-2", "-7", "--1", "10000", "12345", "99999", "2147483648", "4294967296", "4294967301", "9223372036854775807", "9223372036854775808", "-9223372036854775808", "-9223372036854775809", "18446744073709551616", "18446744073709551621", "1e3", "1.0", "7.", ".7", "0x7", "0b1", "0o7", "1_0", "7a", "a7", "seven", "x", "own", "seq", "/", "/7", "\u0667", "\uff17", "7\x00", "nan", "inf", "true", strings.Repeat("0", 5000), strings.Repeat("9", 5000)}

func TestWrongNumbersAreNotRead(t *testing.T) {
	for _, n := range wrongNumbers {
		for _, text := range []string{"create /a N", "create /a N seq", "create /a N own", "create /a N seq own", "set /a N any", "set /a N 0", "set /a 5 N", "set /a N N", "delete /a N", "check /a N"} {
			checkUnread(t, "a wrong number", strings.ReplaceAll(text, "N", n))
		}
	}
	for _, text := range []string{"create /a any", "create /a any own", "create /a any seq own", "set /a any 0", "set /a any any", "delete /a 1000", "delete /a 9999", "check /a 1000", "check /a 9999", "set /a 5 1000", "set /a 1000 1000"} {
		checkUnread(t, "a word or a number of another place", text)
	}
}

func TestWrongPathsAreNotRead(t *testing.T) {
	long := strings.Repeat("/a", 1<<16)
	for _, path := range append([]string{"//", "a/b", "/a//b", "/a/b/", "/a.b", "/..", "/a-b", "/abcdefgh/abcdefghi", "/a/b/c/d/", "any", "5", "own", "-", "/\u00e9", "/a\x00", "/a;", long}, drawnWrongs...) {
		for _, text := range []string{"create P 5", "create P 5 seq own", "delete P any", "set P 5 any", "get P", "kids P", "check P 0"} {
			checkUnread(t, "a wrong path", strings.Replace(text, "P", path, 1))
		}
	}
}

func TestVeryLongTextsAreNotRead(t *testing.T) {
	for _, one := range []string{" ", "a", "/", "0", "9", "open", "open ", " open", "get / ", "create /a 5 seq own ", "own ", "\x00", "\xff", "\n"} {
		long := strings.Repeat(one, 1<<18)
		checkUnread(t, "long", long)
		for _, c := range opTexts {
			checkUnread(t, "long behind", c.text+long)
			checkUnread(t, "long behind a blank", c.text+" "+long)
			checkUnread(t, "long ahead", long+c.text)
		}
	}
}

func TestOpsAreWhatTheModelTells(t *testing.T) {
	r := rand.New(rand.NewPCG(20, 1))
	faults, requests, parsed, sames := map[int64]int{}, map[int64]int{}, map[int64]int{}, map[bool]int{}
	for range 60000 {
		c := drawnOpCall(r)
		got, want := programOps(c), modelOps(c)
		if got != want {
			t.Fatalf("of %+v:\n%+v, want\n%+v", c, got, want)
		}
		faults[got.fault]++
		requests[got.requestFault]++
		parsed[got.parsed.Code]++
		sames[got.same]++
	}
	for _, code := range []int64{impl.OK, impl.ErrForm, impl.ErrMany, impl.ErrRange, impl.ErrText} {
		if faults[code] < 300 || requests[code] < 300 {
			t.Errorf("the code %d was told only %d times of operations, %d times of requests", code, faults[code], requests[code])
		}
	}
	if parsed[impl.OK] < 10000 || parsed[impl.ErrText] < 10000 || sames[true] < 10000 || sames[false] < 10000 {
		t.Errorf("only so many texts by their code %v, and requests by whether they are the same %v", parsed, sames)
	}
}

// opsOfAll calls look with operations without a fault: every Data and every Version that there is among them, and each of a path, a Data and a Version at an edge with each other.
func opsOfAll(look func(impl.Op)) {
	datas, versions := []int64{0, 1, 9, 10, 99, 100, 999, 1000, 9999}, []int64{-1, 0, 1, 9, 10, 99, 100, 999}
	look(opOpen)
	look(opClose)
	for _, path := range drawnPaths {
		look(getOf(path))
		look(kidsOf(path))
		for version := int64(-1); version <= 999; version++ {
			look(deleteOf(path, version))
			look(checkOf(path, version))
		}
		for _, data := range datas {
			for _, version := range versions {
				look(setOf(path, data, version))
			}
		}
	}
	for data := int64(0); data <= 9999; data++ {
		for _, made := range []impl.Op{create("/a", data), create("/abcdefgh/abcdefgh/abcde", data)} {
			look(made)
			look(withSeq(made))
			look(withOwn(made))
			look(withSeq(withOwn(made)))
		}
		for _, version := range versions {
			look(setOf("/a", data, version))
		}
	}
	for version := int64(-1); version <= 999; version++ {
		for _, data := range datas {
			look(setOf("/a/b", data, version))
		}
	}
}

// Promise 6: an operation is read back from its text, and no other one has this text.
func TestOpIsReadBackFromItsText(t *testing.T) {
	many := 0
	ofText := map[string]impl.Op{}
	opsOfAll(func(o impl.Op) {
		many++
		text := impl.OpText(o)
		if impl.OpFault(o) != impl.OK || text.Code != impl.OK || text.Text == "" {
			t.Fatalf("%+v: fault %d, text %+v", o, impl.OpFault(o), text)
		}
		if back := impl.ParseOp(text.Text); back != (impl.OpResult{Op: o}) {
			t.Fatalf("%+v is told as %q, which is read as %+v", o, text.Text, back)
		}
		if other, told := ofText[text.Text]; told && other != o {
			t.Fatalf("%+v and %+v are both told as %q", o, other, text.Text)
		}
		ofText[text.Text] = o
	})
	if many < 200000 {
		t.Errorf("only %d operations", many)
	}
}

// Promise 6: what is told of an operation that was read is the very text that it was read from.
func TestTextIsToldOfWhatIsRead(t *testing.T) {
	read := 0
	look := func(text string) {
		got := impl.ParseOp(text)
		if got.Code == impl.OK {
			read++
			if back := impl.OpText(got.Op); back != textOf(text) || impl.OpFault(got.Op) != impl.OK {
				t.Fatalf("%q is read as %+v, which is told as %+v", text, got, back)
			}
		} else if got != (impl.OpResult{Code: impl.ErrText}) {
			t.Fatalf("%q: %+v", text, got)
		}
		if want := modelParse(text); got != want {
			t.Fatalf("%q: %+v, want %+v", text, got, want)
		}
	}
	pool := []string{"open", "close", "create", "delete", "set", "get", "kids", "check", "seq", "own", "any", "/", "/a", "0", "5", "-1", ""}
	heads := []string{""}
	for range 3 {
		for _, head := range heads {
			for _, word := range pool {
				look(head + word)
				look(head + word + " ")
			}
		}
		heads = longerBy(heads, pool)
	}
	for _, head := range longerBy(longerBy([]string{"create /a ", "set /a "}, pool), pool) {
		for _, word := range pool {
			look(head + word)
		}
	}
	r := rand.New(rand.NewPCG(21, 21))
	for range 60000 {
		look(drawnOpText(r))
	}
	if read < 20000 {
		t.Errorf("only %d texts were read", read)
	}
}

func longerBy(heads []string, words []string) []string {
	var all []string
	for _, head := range heads {
		for _, word := range words {
			all = append(all, head+word+" ")
		}
	}
	return all
}

func asked(client int64, number int64, time int64, ops ...impl.Op) impl.Request {
	return impl.Request{Client: client, Number: number, Time: time, Ops: ops}
}

// checkRequest asks for the fault of a request, and that its text has the same code and nothing else.
func checkRequest(t *testing.T, name string, r impl.Request, want int64) {
	t.Helper()
	if got := impl.RequestFault(r); got != want {
		t.Errorf("%s: RequestFault of %+v: %d, want %d", name, r, got, want)
	}
	text := impl.RequestText(r)
	if text.Code != want || (text.Text == "") != (want != impl.OK) {
		t.Errorf("%s: RequestText of %+v: %+v, want the code %d", name, r, text, want)
	}
}

func TestRequestFaultAsksNumbers(t *testing.T) {
	get := getOf("/a")
	code := func(right bool) int64 {
		if right {
			return impl.OK
		}
		return impl.ErrRange
	}
	for _, n := range []int64{math.MinInt64, -1, 0, 1, 2, 8, 9, 10, 11, 98, 99, 100, 101, 256 + 1, 8999, 9000, 9001, 9999, 1<<32 + 1, math.MaxInt64} {
		checkRequest(t, "a Client", asked(n, 1, 0, get), code(n >= 1 && n <= 9))
		checkRequest(t, "a Number", asked(1, n, 0, get), code(n >= 1 && n <= 99))
		checkRequest(t, "a Time", asked(1, 1, n, get), code(n >= 0 && n <= 9000))
	}
	checkRequest(t, "the least of all", asked(1, 1, 0, get), impl.OK)
	checkRequest(t, "the greatest of all", asked(9, 99, 9000, get, get, get), impl.OK)
	checkRequest(t, "nothing at all", impl.Request{}, impl.ErrRange)
}

func TestRequestFaultCountsOps(t *testing.T) {
	wrong := impl.Op{Kind: 9}
	cases := []struct {
		name string
		ops  []impl.Op
		want int64
	}{
		{"nil", nil, impl.ErrMany},
		{"none", []impl.Op{}, impl.ErrMany},
		{"1", slices.Repeat([]impl.Op{getOf("/")}, 1), impl.OK},
		{"2", slices.Repeat([]impl.Op{getOf("/")}, 2), impl.OK},
		{"3", slices.Repeat([]impl.Op{getOf("/")}, 3), impl.OK},
		{"4", slices.Repeat([]impl.Op{getOf("/")}, 4), impl.ErrMany},
		{"4 that have a fault", slices.Repeat([]impl.Op{wrong}, 4), impl.ErrMany},
		{"4 that stand alone", slices.Repeat([]impl.Op{opOpen}, 4), impl.ErrMany},
		{"very many", make([]impl.Op, 1<<16), impl.ErrMany},
		{"3 that are none", make([]impl.Op, 3), impl.ErrForm},
	}
	for _, c := range cases {
		checkRequest(t, c.name, asked(1, 2, 3, c.ops...), c.want)
		checkRequest(t, c.name+", of Client 0", asked(0, 2, 3, c.ops...), impl.ErrRange)
		checkRequest(t, c.name+", of Number 100", asked(1, 100, 3, c.ops...), impl.ErrRange)
		checkRequest(t, c.name+", at -1", asked(1, 2, -1, c.ops...), impl.ErrRange)
	}
}

func TestRequestFaultAsksOpsOneByOne(t *testing.T) {
	get, set := getOf("/a"), setOf("/a", 5, -1)
	form, text, many, bounds := withOwn(get), getOf("/A"), getOf("/a/b/c/d/e"), create("/a", 10000)
	for _, wrong := range []struct {
		o    impl.Op
		code int64
	}{{form, impl.ErrForm}, {text, impl.ErrText}, {many, impl.ErrMany}, {bounds, impl.ErrRange}} {
		checkRequest(t, "alone", asked(1, 2, 3, wrong.o), wrong.code)
		checkRequest(t, "the first of two", asked(1, 2, 3, wrong.o, get), wrong.code)
		checkRequest(t, "the last of two", asked(1, 2, 3, get, wrong.o), wrong.code)
		checkRequest(t, "the first of three", asked(1, 2, 3, wrong.o, get, set), wrong.code)
		checkRequest(t, "the second of three", asked(1, 2, 3, get, wrong.o, set), wrong.code)
		checkRequest(t, "the last of three", asked(1, 2, 3, get, set, wrong.o), wrong.code)
		for _, alone := range []impl.Op{opOpen, opClose} {
			checkRequest(t, "behind one that stands alone", asked(1, 2, 3, alone, wrong.o), wrong.code)
			checkRequest(t, "ahead of one that stands alone", asked(1, 2, 3, wrong.o, alone), wrong.code)
			checkRequest(t, "behind two of them", asked(1, 2, 3, alone, alone, wrong.o), wrong.code)
		}
		for _, other := range []impl.Op{form, text, many, bounds} {
			checkRequest(t, "ahead of one with another fault", asked(1, 2, 3, wrong.o, other), wrong.code)
			checkRequest(t, "ahead of one with another fault, behind one with none", asked(1, 2, 3, get, wrong.o, other), wrong.code)
		}
	}
}

func TestWhoOpensOrClosesStandsAlone(t *testing.T) {
	for _, alone := range []impl.Op{opOpen, opClose} {
		checkRequest(t, "alone", asked(1, 2, 3, alone), impl.OK)
		checkRequest(t, "twice", asked(1, 2, 3, alone, alone), impl.ErrForm)
		checkRequest(t, "with the other one", asked(1, 2, 3, opOpen, opClose), impl.ErrForm)
		for _, other := range oneOfEach[2:] {
			checkRequest(t, "others alone", asked(1, 2, 3, other, other, other), impl.OK)
			checkRequest(t, "ahead", asked(1, 2, 3, alone, other), impl.ErrForm)
			checkRequest(t, "behind", asked(1, 2, 3, other, alone), impl.ErrForm)
			checkRequest(t, "ahead of two", asked(1, 2, 3, alone, other, other), impl.ErrForm)
			checkRequest(t, "between", asked(1, 2, 3, other, alone, other), impl.ErrForm)
			checkRequest(t, "behind two", asked(1, 2, 3, other, other, alone), impl.ErrForm)
		}
	}
}

func TestRequestText(t *testing.T) {
	cases := []struct {
		r    impl.Request
		want string
	}{
		{asked(1, 2, 3, opOpen), "client 1 2 at 3 : open"},
		{asked(9, 99, 9000, opClose), "client 9 99 at 9000 : close"},
		{asked(1, 1, 0, getOf("/")), "client 1 1 at 0 : get /"},
		{asked(1, 2, 3, withOwn(create("/a", 5)), getOf("/")), "client 1 2 at 3 : create /a 5 own ; get /"},
		{asked(3, 10, 100, withSeq(withOwn(create("/a", 5))), setOf("/b", 0, -1), checkOf("/c", 0)), "client 3 10 at 100 : create /a 5 seq own ; set /b 0 any ; check /c 0"},
		{asked(2, 1, 3, kidsOf("/"), kidsOf("/"), kidsOf("/")), "client 2 1 at 3 : kids / ; kids / ; kids /"},
		{asked(2, 3, 1, deleteOf("/a", -1), deleteOf("/b", 0)), "client 2 3 at 1 : delete /a any ; delete /b 0"},
		{asked(2, 3, 1, deleteOf("/b", 0), deleteOf("/a", -1)), "client 2 3 at 1 : delete /b 0 ; delete /a any"},
	}
	for _, c := range cases {
		if got := impl.RequestText(c.r); got != textOf(c.want) {
			t.Errorf("RequestText of %+v: %+v, want %q", c.r, got, c.want)
		}
	}
	for _, c := range opTexts {
		want := "client 4 5 at 6 : " + c.text
		if got := impl.RequestText(asked(4, 5, 6, c.o)); got != textOf(want) {
			t.Errorf("RequestText of %+v: %+v, want %q", c.o, got, want)
		}
	}
	if got := impl.RequestText(asked(1, 2, 3)); got != noText(impl.ErrMany) {
		t.Errorf("RequestText of no Ops: %+v", got)
	}
}

// turnedOnce are requests that differ from the one in just one thing each.
func turnedOnce(r impl.Request) map[string]impl.Request {
	all := map[string]impl.Request{}
	turn := func(name string, do func(*impl.Request)) {
		other := r
		other.Ops = slices.Clone(r.Ops)
		do(&other)
		all[name] = other
	}
	turn("Client", func(o *impl.Request) { o.Client++ })
	turn("Number", func(o *impl.Request) { o.Number++ })
	turn("Time", func(o *impl.Request) { o.Time++ })
	turn("one Op more", func(o *impl.Request) { o.Ops = append(o.Ops, impl.Op{}) })
	if len(r.Ops) == 0 {
		return all
	}
	turn("the first Op missing", func(o *impl.Request) { o.Ops = o.Ops[1:] })
	turn("the last Op missing", func(o *impl.Request) { o.Ops = o.Ops[:len(o.Ops)-1] })
	turn("all Ops missing", func(o *impl.Request) { o.Ops = nil })
	for place, at := range map[string]int{"first ": 0, "last ": len(r.Ops) - 1} {
		turn(place+"Kind", func(o *impl.Request) { o.Ops[at].Kind++ })
		turn(place+"Path", func(o *impl.Request) { o.Ops[at].Path += "b" })
		turn(place+"Data", func(o *impl.Request) { o.Ops[at].Data++ })
		turn(place+"Version", func(o *impl.Request) { o.Ops[at].Version-- })
		turn(place+"Seq", func(o *impl.Request) { o.Ops[at].Seq = !o.Ops[at].Seq })
		turn(place+"Own", func(o *impl.Request) { o.Ops[at].Own = !o.Ops[at].Own })
	}
	return all
}

func TestSameRequests(t *testing.T) {
	get, set := getOf("/a"), setOf("/b", 5, 0)
	for name, r := range map[string]impl.Request{
		"nothing":            {},
		"no Ops":             asked(1, 2, 3),
		"one":                asked(1, 2, 3, get),
		"two":                asked(1, 2, 3, get, set),
		"three":              asked(9, 99, 9000, set, get, withSeq(create("/", 0))),
		"one that opens":     asked(1, 2, 3, opOpen),
		"with faults of all": asked(-1, 100, 9001, impl.Op{Kind: 12, Path: "\xff", Data: -3, Version: 1000, Seq: true, Own: true}),
		"a fault in an Op":   asked(1, 2, 3, get, withOwn(get)),
		"an open among them": asked(1, 2, 3, get, opOpen),
		"too many":           asked(1, 2, 3, get, get, get, get, set),
		"far":                asked(math.MinInt64, math.MaxInt64-1, math.MinInt64, impl.Op{Kind: math.MinInt64, Data: math.MinInt64}),
	} {
		other := r
		other.Ops = roomy(r.Ops)
		for i := range other.Ops {
			other.Ops[i].Path = strings.Clone(other.Ops[i].Path)
		}
		if !impl.SameRequests(r, r) || !impl.SameRequests(r, other) || !impl.SameRequests(other, r) {
			t.Errorf("%s: %+v is not the same as itself", name, r)
		}
		for thing, turned := range turnedOnce(r) {
			if impl.SameRequests(r, turned) || impl.SameRequests(turned, r) {
				t.Errorf("%s: %+v is the same as %+v, with another %s", name, r, turned, thing)
			}
		}
	}
	if impl.SameRequests(asked(1, 2, 3, get, set), asked(1, 2, 3, set, get)) {
		t.Error("Ops in another order are the same")
	}
	if impl.SameRequests(asked(1, 2, 3, get), asked(2, 1, 3, get)) || impl.SameRequests(asked(1, 2, 3, get), asked(1, 3, 2, get)) {
		t.Error("numbers at other places are the same")
	}
	if !impl.SameRequests(asked(1, 2, 3), impl.Request{Client: 1, Number: 2, Time: 3, Ops: []impl.Op{}}) {
		t.Error("no Ops and an empty list of them are not the same")
	}
}

// Promise 1: every argument has an answer, however long it is or how odd its numbers are.
func TestEveryOpIsAnswered(t *testing.T) {
	far := []int64{math.MinInt64, -2, -1, 0, 1, 2, 3, 5, 8, 9, 999, 9999, math.MaxInt64}
	texts := []string{"", "/a", "open", "create /a 5 seq own", strings.Repeat("/", 1<<10), strings.Repeat(" ", 1<<10), "\xff\xfe", "set /a 5 any\x00"}
	for _, kind := range far {
		for _, n := range far {
			for i, text := range texts {
				o := impl.Op{Kind: kind, Path: text, Data: n, Version: n, Seq: i%2 == 0, Own: i%3 == 0}
				r := asked(n, kind, n, slices.Repeat([]impl.Op{o}, i%5)...)
				c := opCall{o, text, r, asked(kind, n, n, o, o)}
				if got, want := programOps(c), modelOps(c); got != want {
					t.Fatalf("of %+v: %+v, want %+v", c, got, want)
				}
			}
		}
	}
	for _, text := range append(manyTexts(), byteTexts()...) {
		for _, head := range []string{"", "get ", "create /a ", "delete /a "} {
			if got, want := impl.ParseOp(head+text), modelParse(head+text); got != want {
				t.Fatalf("of %q: %+v, want %+v", head+text, got, want)
			}
		}
	}
}

// Promise 1: an answer hangs on the arguments alone, so it is the same in whatever order it is asked.
func TestOpAnswersHangOnArgumentsAlone(t *testing.T) {
	r := rand.New(rand.NewPCG(22, 22))
	checkAgain(t, drawnMany(r, 2000, drawnOpCall), programOps, sameOpAnswers)
}

// ownOps lays operations where nothing else lies: their texts are new, and room is left behind them for whoever writes there.
func ownOps(ops []impl.Op) []impl.Op {
	own := roomy(ops)
	for i := range own {
		own[i].Path = strings.Clone(own[i].Path)
	}
	return own
}

func drawnOwnOpCall(r *rand.Rand) opCall {
	c := drawnOpCall(r)
	c.op.Path, c.text = strings.Clone(c.op.Path), strings.Clone(c.text)
	c.one.Ops, c.other.Ops = ownOps(c.one.Ops), ownOps(c.other.Ops)
	return c
}

// Promise 1: what is answered shares no memory with what is handed in.
func TestOpAnswersAreNewMemory(t *testing.T) {
	r := rand.New(rand.NewPCG(23, 23))
	read := 0
	for range 4000 {
		c := drawnOwnOpCall(r)
		a := programOps(c)
		handed := []string{c.op.Path, c.text}
		for _, o := range c.one.Ops {
			handed = append(handed, o.Path)
		}
		for _, old := range handed {
			for _, text := range []string{a.text.Text, a.parsed.Op.Path, a.requestText.Text} {
				if sharesMemory(old, text) {
					t.Fatalf("of %+v: %q is shared", c, text)
				}
			}
		}
		if a.parsed.Op.Path != "" {
			read++
			again := impl.ParseOp(c.text)
			if sharesMemory(again.Op.Path, a.parsed.Op.Path) {
				t.Fatalf("of %q: two answers share their path", c.text)
			}
		}
	}
	if read < 1000 {
		t.Errorf("only %d paths were read", read)
	}
}

// Promise 1: no call changes the requests or the Ops that are handed in, nor what lies behind them.
func TestOpArgumentsStayAsTheyAre(t *testing.T) {
	r := rand.New(rand.NewPCG(24, 24))
	for range 4000 {
		c := drawnOwnOpCall(r)
		one, other := c.one.Ops[:cap(c.one.Ops)], c.other.Ops[:cap(c.other.Ops)]
		oldOne, oldOther := ownOps(one), ownOps(other)
		oldText, oldPath := strings.Clone(c.text), strings.Clone(c.op.Path)
		programOps(c)
		impl.SameRequests(c.other, c.one)
		if !slices.Equal(one, oldOne) || !slices.Equal(other, oldOther) || c.text != oldText || c.op.Path != oldPath {
			t.Fatalf("changed: %+v", c)
		}
	}
}
