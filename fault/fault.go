// Package fault is what went wrong, and where: layer 1 (see shared/doc/01-fault.md).
package fault

import (
	"errors"
	"strconv"
	"strings"

	"silt/api"
)

// between stands behind each text.
const between = ": "

// fault is a text, and the error that it is about: a number, or what was wrapped.
type fault struct {
	what    string
	about   error
	wrapped bool // made by Wrap: a number may be wrapped too, so about alone doesn't say which
}

func (f *fault) Error() string { return Text(f) }

func (f *fault) Unwrap() error { return f.about }

// New is a fault with the number e; nil, if e is OK.
func New(e api.Errno, what string) error {
	if e == api.OK {
		return nil
	}
	return &fault{what: what, about: e}
}

// Wrap is a fault about err; nil, if err is nil.
func Wrap(err error, what string) error {
	if err == nil {
		return nil
	}
	return &fault{what: what, about: err, wrapped: true}
}

// Of is the number that err wraps; ErrArg, if it wraps none.
func Of(err error) api.Errno {
	if err == nil {
		return api.OK
	}
	if e, ok := find[api.Errno](err); ok {
		return e
	}
	return api.ErrArg
}

// Is tells whether err wraps the number e; nil is OK alone.
func Is(err error, e api.Errno) (is bool) {
	if err == nil {
		return e == api.OK
	}
	// errors.Is asks methods of err, which may be of any package: what panics there is not e.
	defer func() {
		if recover() != nil {
			is = false
		}
	}()
	return errors.Is(err, e)
}

// Text is all texts of err, from the outermost, and its number.
func Text(err error) string {
	if err == nil {
		return ""
	}
	var b strings.Builder
	rest := err
	for f := next(rest); f != nil; f = next(rest) {
		b.WriteString(f.what)
		b.WriteString(between)
		rest = f.about
	}
	if _, ok := find[api.Errno](rest); !ok {
		b.WriteString(told(rest))
		b.WriteString(between)
	}
	// Not the number's own Error: that has no digits of a number below 0.
	b.WriteString("error ")
	b.WriteString(strconv.Itoa(int(Of(err))))
	return b.String()
}

// Deep is how many Wraps there are in err.
func Deep(err error) int {
	n := 0
	for f := next(err); f != nil; f = next(f.about) {
		if f.wrapped {
			n++
		}
	}
	return n
}

// next is the outermost fault of this package that err wraps; nil, if there is none (or none was set by what claims to hold one).
func next(err error) *fault {
	f, _ := find[*fault](err)
	return f
}

// find is the outermost E that err wraps, if there is one.
func find[E error](err error) (found E, ok bool) {
	// errors.As asks methods of err, which may be of any package: what panics there holds no E.
	defer func() {
		if recover() != nil {
			var none E
			found, ok = none, false
		}
	}()
	ok = errors.As(err, &found)
	return found, ok
}

// told is the text of an error of another package; "", if it panics when it is asked.
func told(err error) (s string) {
	defer func() {
		if recover() != nil {
			s = ""
		}
	}()
	return err.Error()
}
