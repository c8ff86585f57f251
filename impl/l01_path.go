package impl

import (
	"errors"
	"strconv"
	"strings"
)

const OK = 0
const ErrForm = 1
const ErrMany = 2
const ErrRange = 3
const ErrNone = 4
const ErrText = 5
const ErrTaken = 6
const ErrVersion = 7
const ErrState = 8
const ErrSession = 9
const ErrSign = 10
const MaxPath = 24

type IntResult struct {
	Code  int64
	Value int64
}
type IntsResult struct {
	Code int64
	List []int64
}
type TextResult struct {
	Code int64
	Text string
}
type TextsResult struct {
	Code  int64
	Texts []string
}

const maxName = 8
const maxNames = 4

// pathError is what the machine says of a text that is no path.
type pathError struct {
	code int64
}

func (e pathError) Error() string {
	return "no path: code " + strconv.FormatInt(e.code, 10)
}

// pathShape keeps what reading a path has shown, so that no one needs to read it again.
type pathShape struct {
	names int64
	last  int
}

// Too many is asked of any text, ahead of whether it is a path at all.
func hasTooMany(text string) bool {
	return len(text) > MaxPath || strings.Count(text, "/") > maxNames
}

func isNameByte(b byte) bool {
	return b >= 'a' && b <= 'z' || b >= '0' && b <= '9'
}

func readPath(path string) (pathShape, error) {
	shape := pathShape{}
	at := 0
	if hasTooMany(path) {
		return pathShape{}, pathError{ErrMany}
	}
slash:
	if at == len(path) || path[at] != '/' {
		goto wrong
	}
	at++
	if len(path) == 1 {
		goto done
	}
	shape.names++
	shape.last = at
name:
	if at < len(path) && at < shape.last+maxName && isNameByte(path[at]) {
		at++
		goto name
	}
	if at == shape.last {
		goto wrong
	}
	// A name that grew too long stops here as well: its next byte is no slash.
	if at < len(path) {
		goto slash
	}
done:
	return shape, nil
wrong:
	return pathShape{}, pathError{ErrText}
}

func codeOfPath(err error) int64 {
	var wrong pathError
	if errors.As(err, &wrong) {
		return wrong.code
	}
	return OK
}

// A name is what makes a path of one name behind a slash: one machine judges both.
func isName(text string) bool {
	shape, err := readPath("/" + text)
	return err == nil && shape.names == 1
}

func PathFault(path string) int64 {
	_, err := readPath(path)
	return codeOfPath(err)
}

func ParentOf(path string) TextResult {
	shape, err := readPath(path)
	if err != nil {
		return TextResult{Code: codeOfPath(err)}
	}
	switch shape.names {
	case 0:
		return TextResult{Code: ErrNone}
	case 1:
		return TextResult{Text: "/"}
	}
	// A piece of a text shares its memory: an answer may not.
	return TextResult{Text: strings.Clone(path[:shape.last-1])}
}

func NameIn(path string) TextResult {
	shape, err := readPath(path)
	if err != nil {
		return TextResult{Code: codeOfPath(err)}
	}
	if shape.names == 0 {
		return TextResult{Code: ErrNone}
	}
	return TextResult{Text: strings.Clone(path[shape.last:])}
}

func JoinPath(path string, name string) TextResult {
	shape, err := readPath(path)
	if err != nil {
		return TextResult{Code: codeOfPath(err)}
	}
	if !isName(name) {
		return TextResult{Code: ErrText}
	}
	joined := path + "/" + name
	if shape.names == 0 {
		joined = "/" + name
	}
	if code := PathFault(joined); code != OK {
		return TextResult{Code: code}
	}
	return TextResult{Text: joined}
}

func IsUnder(path string, top string) bool {
	if PathFault(path) != OK || PathFault(top) != OK {
		return false
	}
	return path == top || top == "/" || strings.HasPrefix(path, top+"/")
}

func DeepIn(path string) IntResult {
	shape, err := readPath(path)
	if err != nil {
		return IntResult{Code: codeOfPath(err)}
	}
	return IntResult{Value: shape.names}
}

func SeqName(name string, n int64) TextResult {
	if !isName(name) {
		return TextResult{Code: ErrText}
	}
	if n < 0 || n > 99 {
		return TextResult{Code: ErrRange}
	}
	numbered := name + strconv.FormatInt(n/10, 10) + strconv.FormatInt(n%10, 10)
	if !isName(numbered) {
		return TextResult{Code: ErrText}
	}
	return TextResult{Text: numbered}
}
