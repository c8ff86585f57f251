package tests

import (
	"fmt"
	"math/rand/v2"
	"reflect"
	"regexp"
	"slices"
	"strconv"
	"strings"

	"loop.example/g00369/impl"
)

// The model tells chapter 5 a second time: what a kind has is a row of letters, and a text is read by a pattern a kind.
type modelKind struct {
	kind    int64
	word    string
	has     string // p: a Path, d: Data, v: a Version, s: Seq, o: Own
	pattern *regexp.Regexp
}

const patternPath = ` (?P<p>/|(?:/[a-z0-9]{1,8}){1,4})`
const patternData = ` (?P<d>0|[1-9][0-9]{0,3})`
const patternVersion = ` (?P<v>any|0|[1-9][0-9]{0,2})`
const patternFlags = `(?P<s> seq)?(?P<o> own)?`

func modelKindOf(kind int64, word string, has string, parts ...string) modelKind {
	return modelKind{kind, word, has, regexp.MustCompile(`\A` + word + strings.Join(parts, "") + `\z`)}
}

var modelKinds = []modelKind{
	modelKindOf(1, "open", ""),
	modelKindOf(2, "close", ""),
	modelKindOf(3, "create", "pdso", patternPath, patternData, patternFlags),
	modelKindOf(4, "delete", "pv", patternPath, patternVersion),
	modelKindOf(5, "set", "pdv", patternPath, patternData, patternVersion),
	modelKindOf(6, "get", "p", patternPath),
	modelKindOf(7, "kids", "p", patternPath),
	modelKindOf(8, "check", "pv", patternPath, patternVersion),
}

func modelKindAt(kind int64) (modelKind, bool) {
	at := slices.IndexFunc(modelKinds, func(k modelKind) bool { return k.kind == kind })
	if at < 0 {
		return modelKind{}, false
	}
	return modelKinds[at], true
}

// lettersOf tells what an operation has, whatever its kind.
func lettersOf(o impl.Op) string {
	letters := ""
	for _, thing := range []struct {
		letter string
		has    bool
	}{{"p", o.Path != ""}, {"d", o.Data != 0}, {"v", o.Version != 0}, {"s", o.Seq}, {"o", o.Own}} {
		if thing.has {
			letters += thing.letter
		}
	}
	return letters
}

func modelOpFault(o impl.Op) int64 {
	kind, known := modelKindAt(o.Kind)
	if !known || strings.Trim(lettersOf(o), kind.has) != "" {
		return impl.ErrForm
	}
	if strings.Contains(kind.has, "p") {
		if code := modelFault(o.Path); code != impl.OK {
			return code
		}
	}
	if o.Data < 0 || o.Data >= 10000 || o.Version < -1 || o.Version >= 1000 {
		return impl.ErrRange
	}
	return impl.OK
}

func modelOpText(o impl.Op) impl.TextResult {
	if code := modelOpFault(o); code != impl.OK {
		return impl.TextResult{Code: code}
	}
	kind, _ := modelKindAt(o.Kind)
	version := strings.Replace(fmt.Sprint(o.Version), "-1", "any", 1)
	text := kind.word
	for _, letter := range kind.has {
		switch {
		case letter == 'p':
			text = fmt.Sprintf("%s %s", text, o.Path)
		case letter == 'd':
			text = fmt.Sprintf("%s %d", text, o.Data)
		case letter == 'v':
			text = fmt.Sprintf("%s %s", text, version)
		case letter == 's' && o.Seq:
			text += " seq"
		case letter == 'o' && o.Own:
			text += " own"
		}
	}
	return impl.TextResult{Text: text}
}

func modelParse(text string) impl.OpResult {
	for _, kind := range modelKinds {
		found := kind.pattern.FindStringSubmatch(text)
		if found == nil {
			continue
		}
		o := impl.Op{Kind: kind.kind}
		for i, letter := range kind.pattern.SubexpNames() {
			switch letter {
			case "p":
				o.Path = found[i]
			case "d":
				o.Data = int64(atoi(found[i]))
			case "v":
				o.Version = int64(atoi(strings.Replace(found[i], "any", "-1", 1)))
			case "s":
				o.Seq = found[i] != ""
			case "o":
				o.Own = found[i] != ""
			}
		}
		if len(o.Path) <= 24 {
			return impl.OpResult{Op: o}
		}
	}
	return impl.OpResult{Code: impl.ErrText}
}

func atoi(text string) int {
	n, err := strconv.Atoi(text)
	if err != nil {
		panic(err)
	}
	return n
}

func modelRequestFault(r impl.Request) int64 {
	switch {
	case r.Client < 1, r.Client >= 10, r.Number < 1, r.Number >= 100, r.Time < 0, r.Time > 9000:
		return impl.ErrRange
	case len(r.Ops) < 1, len(r.Ops) >= 4:
		return impl.ErrMany
	}
	alone := 0
	for _, o := range r.Ops {
		if code := modelOpFault(o); code != impl.OK {
			return code
		}
		if o.Kind < 3 {
			alone++
		}
	}
	if alone > 0 && len(r.Ops) != 1 {
		return impl.ErrForm
	}
	return impl.OK
}

func modelRequestText(r impl.Request) impl.TextResult {
	if code := modelRequestFault(r); code != impl.OK {
		return impl.TextResult{Code: code}
	}
	text := fmt.Sprintf("client %d %d at %d ", r.Client, r.Number, r.Time)
	between := ":"
	for _, o := range r.Ops {
		text += between + " " + modelOpText(o).Text
		between = " ;"
	}
	return impl.TextResult{Text: text}
}

// modelSame goes by all that lies in two requests, but for what tells nil from an empty list.
func modelSame(a impl.Request, b impl.Request) bool {
	a.Ops, b.Ops = append([]impl.Op{}, a.Ops...), append([]impl.Op{}, b.Ops...)
	return reflect.DeepEqual(a, b)
}

// opCall holds what chapter 5 is asked with.
type opCall struct {
	op    impl.Op
	text  string
	one   impl.Request
	other impl.Request
}

// opAnswers holds what chapter 5 says of one call; it can be compared whole.
type opAnswers struct {
	fault        int64
	text         impl.TextResult
	parsed       impl.OpResult
	requestFault int64
	requestText  impl.TextResult
	same         bool
}

func programOps(c opCall) opAnswers {
	return opAnswers{impl.OpFault(c.op), impl.OpText(c.op), impl.ParseOp(c.text), impl.RequestFault(c.one), impl.RequestText(c.one), impl.SameRequests(c.one, c.other)}
}

func modelOps(c opCall) opAnswers {
	return opAnswers{modelOpFault(c.op), modelOpText(c.op), modelParse(c.text), modelRequestFault(c.one), modelRequestText(c.one), modelSame(c.one, c.other)}
}

func sameOpAnswers(a opAnswers, b opAnswers) bool {
	return a == b
}

// drawnOpOf draws an operation of a kind that has no fault.
func drawnOpOf(r *rand.Rand, kind modelKind) impl.Op {
	o := impl.Op{Kind: kind.kind}
	for _, letter := range kind.has {
		switch letter {
		case 'p':
			o.Path = drawn(r, drawnPaths)
		case 'd':
			o.Data = drawn(r, []int64{0, 1, 9, 10, 999, 1000, 9998, 9999, r.Int64N(10000)})
		case 'v':
			o.Version = drawn(r, []int64{-1, -1, 0, 1, 9, 10, 99, 100, 998, 999, r.Int64N(1000)})
		case 's':
			o.Seq = r.IntN(2) == 0
		case 'o':
			o.Own = r.IntN(2) == 0
		}
	}
	return o
}

func drawnOp(r *rand.Rand) impl.Op {
	return drawnOpOf(r, drawn(r, modelKinds))
}

// spoiltOp turns one thing of an operation, most often into a fault.
func spoiltOp(r *rand.Rand, o impl.Op) impl.Op {
	switch r.IntN(8) {
	case 0, 1:
		o.Kind = r.Int64N(11) - 1
	case 2:
		o.Path = drawn(r, drawnWrongs)
	case 3:
		o.Path = drawn(r, drawnPaths)
	case 4:
		o.Data = drawn(r, []int64{-1, 0, 1, 9999, 10000})
	case 5:
		o.Version = drawn(r, []int64{-2, -1, 0, 999, 1000})
	case 6:
		o.Seq = !o.Seq
	case 7:
		o.Own = !o.Own
	}
	return o
}

var drawnWords = []string{"open", "close", "create", "delete", "set", "get", "kids", "check", "seq", "own", "any", "/", "/a", "/a/b", "/A", "/a/", "a", "0", "7", "999", "1000", "9999", "10000", "00", "07", "+7", "-1", "-0", "", "Open", "ANY", ";", "9223372036854775808"}

// turnedText turns one thing of a text, most often so that nothing can be read there.
func turnedText(r *rand.Rand, text string) string {
	words := strings.Split(text, " ")
	i, j := r.IntN(len(words)), r.IntN(len(words))
	switch r.IntN(6) {
	case 0:
		words[i] = drawn(r, drawnWords)
	case 1:
		words = slices.Insert(words, i, drawn(r, drawnWords))
	case 2:
		words = slices.Delete(words, i, i+1)
	case 3:
		words[i], words[j] = words[j], words[i]
	case 4:
		words = append(words, drawn(r, drawnWords))
	case 5:
		at := r.IntN(len(text) + 1)
		return text[:at] + string([]byte{byte(r.IntN(256))}) + text[min(at+r.IntN(2), len(text)):]
	}
	return strings.Join(words, " ")
}

func drawnOpText(r *rand.Rand) string {
	text := modelOpText(drawnOp(r)).Text
	for text != "" && r.IntN(2) == 0 {
		text = turnedText(r, text)
	}
	return text
}

// drawnRequest draws a request without a fault.
func drawnRequest(r *rand.Rand) impl.Request {
	asked := impl.Request{Client: drawn(r, []int64{1, 2, 9}), Number: drawn(r, []int64{1, 2, 10, 99}), Time: drawn(r, []int64{0, 1, 10, 8999, 9000})}
	if r.IntN(4) == 0 {
		asked.Ops = []impl.Op{drawnOpOf(r, drawn(r, modelKinds[:2]))}
		return asked
	}
	for range 1 + r.IntN(3) {
		asked.Ops = append(asked.Ops, drawnOpOf(r, drawn(r, modelKinds[2:])))
	}
	return asked
}

// spoiltRequest turns one thing of a request, most often into a fault; what is handed in stays as it is.
func spoiltRequest(r *rand.Rand, asked impl.Request) impl.Request {
	asked.Ops = slices.Clone(asked.Ops)
	if len(asked.Ops) == 0 {
		asked.Ops = append(asked.Ops, drawnOp(r))
	}
	i := r.IntN(len(asked.Ops))
	switch r.IntN(7) {
	case 0:
		asked.Client = drawn(r, []int64{-1, 0, 1, 9, 10})
	case 1:
		asked.Number = drawn(r, []int64{-1, 0, 1, 99, 100})
	case 2:
		asked.Time = drawn(r, []int64{-1, 0, 9000, 9001})
	case 3:
		asked.Ops = slices.Delete(asked.Ops, i, i+1)
	case 4:
		asked.Ops = slices.Insert(asked.Ops, i, drawnOp(r))
	case 5, 6:
		asked.Ops[i] = spoiltOp(r, asked.Ops[i])
	}
	return asked
}

func drawnOpCall(r *rand.Rand) opCall {
	c := opCall{op: drawnOp(r), text: drawnOpText(r), one: drawnRequest(r)}
	for r.IntN(2) == 0 {
		c.op = spoiltOp(r, c.op)
	}
	for r.IntN(2) == 0 {
		c.one = spoiltRequest(r, c.one)
	}
	c.other = c.one
	if r.IntN(2) == 0 {
		c.other = spoiltRequest(r, c.one)
	}
	return c
}
