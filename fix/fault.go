package fix

import (
	"errors"

	"flarepath/api"
	"flarepath/num"
)

// fault wraps an error of the layer beneath with what was worked out when it came.
type fault struct {
	during string
	cause  error
}

func (f fault) Error() string { return f.during + ": " + f.cause.Error() }

func (f fault) Unwrap() error { return f.cause }

// wrapped tells nil of OK: as a value of error an Errno of 0 would not be nil.
func wrapped(during string, errno api.Errno) error {
	if errno == api.OK {
		return nil
	}
	return fault{during: during, cause: errno}
}

func product(a, b int64) (int64, error) {
	n, errno := num.Mul(a, b)
	return n, wrapped("product", errno)
}

func quotient(a, b int64) (int64, error) {
	n, errno := num.Div(a, b)
	return n, wrapped("quotient", errno)
}

// answer tells a number beside the number of its error, however deep that is wrapped.
func answer(n int64, err error) (int64, api.Errno) {
	switch {
	case err == nil:
		return n, api.OK
	case errors.Is(err, api.ErrArg):
		return 0, api.ErrArg
	}
	return 0, api.ErrRange
}
