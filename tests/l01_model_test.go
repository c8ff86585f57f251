package tests

import (
	"fmt"
	"regexp"
	"strings"

	"loop.example/g00369/impl"
)

// The model tells chapter 1 a second time, by other means than the program does: by patterns and by splitting.
var modelName = regexp.MustCompile(`\A[a-z0-9]{1,8}\z`)
var modelPath = regexp.MustCompile(`\A(/|(/[a-z0-9]{1,8}){1,4})\z`)

func modelFault(path string) int64 {
	switch {
	case len(path) > 24 || len(strings.Split(path, "/")) > 5:
		return impl.ErrMany
	case !modelPath.MatchString(path):
		return impl.ErrText
	}
	return impl.OK
}

// modelNames is asked of paths alone.
func modelNames(path string) []string {
	if path == "/" {
		return nil
	}
	return strings.Split(path, "/")[1:]
}

func modelOfNames(names []string) string {
	return "/" + strings.Join(names, "/")
}

func modelParent(path string) impl.TextResult {
	if code := modelFault(path); code != impl.OK {
		return impl.TextResult{Code: code}
	}
	names := modelNames(path)
	if len(names) == 0 {
		return impl.TextResult{Code: impl.ErrNone}
	}
	return impl.TextResult{Text: modelOfNames(names[:len(names)-1])}
}

func modelNameIn(path string) impl.TextResult {
	if code := modelFault(path); code != impl.OK {
		return impl.TextResult{Code: code}
	}
	names := modelNames(path)
	if len(names) == 0 {
		return impl.TextResult{Code: impl.ErrNone}
	}
	return impl.TextResult{Text: names[len(names)-1]}
}

func modelJoin(path string, name string) impl.TextResult {
	if code := modelFault(path); code != impl.OK {
		return impl.TextResult{Code: code}
	}
	if !modelName.MatchString(name) {
		return impl.TextResult{Code: impl.ErrText}
	}
	joined := modelOfNames(append(modelNames(path), name))
	if code := modelFault(joined); code != impl.OK {
		return impl.TextResult{Code: code}
	}
	return impl.TextResult{Text: joined}
}

func modelUnder(path string, top string) bool {
	if modelFault(path) != impl.OK || modelFault(top) != impl.OK {
		return false
	}
	names, tops := modelNames(path), modelNames(top)
	if len(tops) > len(names) {
		return false
	}
	for i, name := range tops {
		if names[i] != name {
			return false
		}
	}
	return true
}

func modelDeep(path string) impl.IntResult {
	if code := modelFault(path); code != impl.OK {
		return impl.IntResult{Code: code}
	}
	return impl.IntResult{Value: int64(len(modelNames(path)))}
}

func modelSeq(name string, n int64) impl.TextResult {
	if !modelName.MatchString(name) {
		return impl.TextResult{Code: impl.ErrText}
	}
	if n < 0 || n > 99 {
		return impl.TextResult{Code: impl.ErrRange}
	}
	numbered := fmt.Sprintf("%s%02d", name, n)
	if !modelName.MatchString(numbered) {
		return impl.TextResult{Code: impl.ErrText}
	}
	return impl.TextResult{Text: numbered}
}

// pathAnswers holds what chapter 1 says of two texts and a number; it can be compared whole.
type pathAnswers struct {
	fault  int64
	parent impl.TextResult
	name   impl.TextResult
	joined impl.TextResult
	under  bool
	deep   impl.IntResult
	seq    impl.TextResult
}

func programAnswers(a string, b string, n int64) pathAnswers {
	return pathAnswers{impl.PathFault(a), impl.ParentOf(a), impl.NameIn(a), impl.JoinPath(a, b), impl.IsUnder(a, b), impl.DeepIn(a), impl.SeqName(a, n)}
}

func modelAnswers(a string, b string, n int64) pathAnswers {
	return pathAnswers{modelFault(a), modelParent(a), modelNameIn(a), modelJoin(a, b), modelUnder(a, b), modelDeep(a), modelSeq(a, n)}
}

// shortTexts are all texts of up to size bytes out of letters.
func shortTexts(letters string, size int) []string {
	all := []string{""}
	for from := 0; size > 0; size-- {
		to := len(all)
		for ; from < to; from++ {
			for i := range len(letters) {
				all = append(all, all[from]+letters[i:i+1])
			}
		}
	}
	return all
}

// longTexts are names of lengths about the bounds, each with a slash ahead, up to five of them.
func longTexts() []string {
	all := []string{""}
	for from, round := 0, 0; round < 5; round++ {
		to := len(all)
		for ; from < to; from++ {
			for _, size := range []int{1, 5, 6, 8, 9} {
				all = append(all, all[from]+"/"+"abcde0189"[:size])
			}
		}
	}
	return all
}

// byteTexts have each byte that there is at each kind of place.
func byteTexts() []string {
	var all []string
	for b := range 256 {
		one := string([]byte{byte(b)})
		all = append(all, one, "/"+one, "/a"+one, "/a"+one+"b", one+"/a", "/a/"+one, "/aaaaaaaa"+one)
	}
	return all
}

func manyTexts() []string {
	all := append(shortTexts("/a9A", 6), longTexts()...)
	return append(all, byteTexts()...)
}
