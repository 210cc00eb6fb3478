package desk

import (
	"errors"
	"strconv"

	"tidewheel/api"
)

// fault is an error that a call answered, or that the desk has of its own.
type fault struct{ errno api.Errno }

func (f fault) Error() string {
	return "error " + strconv.Itoa(int(f.errno))
}

// lineFault is a fault of a plan's text, at one of its lines, or (0) at
// none.
type lineFault struct {
	cause fault
	line  int
}

func (l lineFault) Error() string {
	return l.cause.Error() + " at line " + strconv.Itoa(l.line)
}

func (l lineFault) Unwrap() error {
	return l.cause
}

// asError keeps OK from becoming an error that isn't nil.
func asError(e api.Errno) error {
	if e == api.OK {
		return nil
	}
	return fault{e}
}

func tell(answer string, err error) string {
	if err != nil {
		answer = tellFault(err)
	}
	return answer + "\n"
}

// tellFault finds the fault also behind that of a line.
func tellFault(err error) string {
	var what fault
	var where lineFault
	answer := "error"
	if errors.As(err, &what) {
		answer += " " + strconv.Itoa(int(what.errno))
	}
	if errors.As(err, &where) {
		answer += " " + strconv.Itoa(where.line)
	}
	return answer
}
