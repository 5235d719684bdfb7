package fix

import (
	"errors"
	"testing"

	"flarepath/api"
)

// The chapter's Ways: what num tells is wrapped, and errors.Is finds it, and nothing else, inside.
func TestFaultsOfNumAreWrapped(t *testing.T) {
	for _, c := range []struct {
		name string
		call func() (int64, error)
		is   api.Errno
		text string
	}{
		{"product", func() (int64, error) { return product(1<<32, 1<<31) }, api.ErrRange, "product: error 9"},
		{"quotient by 0", func() (int64, error) { return quotient(1, 0) }, api.ErrArg, "quotient: error 2"},
		{"quotient", func() (int64, error) { return quotient(least, -1) }, api.ErrRange, "quotient: error 9"},
		{"scaled", func() (int64, error) { return scaled(least, 2, 1) }, api.ErrRange, "product: error 9"},
	} {
		n, err := c.call()
		if n != 0 || err == nil {
			t.Errorf("%s: %d, %v", c.name, n, err)
			continue
		}
		if _, plain := err.(api.Errno); plain {
			t.Errorf("%s: %v is not wrapped", c.name, err)
		}
		if err.Error() != c.text {
			t.Errorf("%s: %q, not %q", c.name, err.Error(), c.text)
		}
		for e := api.OK; e <= api.ErrState; e++ {
			if errors.Is(err, e) != (e == c.is) {
				t.Errorf("%s: errors.Is of %d is %t", c.name, e, e != c.is)
			}
		}
	}
}

// An Errno of 0 in an error value would not be nil.
func TestNoFaultIsNil(t *testing.T) {
	if err := wrapped("nothing", api.OK); err != nil {
		t.Errorf("wrapped OK is %v", err)
	}
	if n, err := scaled(6, 2, 3); n != 4 || err != nil {
		t.Errorf("scaled(6, 2, 3) = %d, %v", n, err)
	}
}

// However deep an error is wrapped, its number is told, and 0 beside it.
func TestAnswer(t *testing.T) {
	for _, c := range []struct {
		err   error
		want  int64
		errno api.Errno
	}{
		{nil, 5, api.OK},
		{api.ErrArg, 0, api.ErrArg},
		{api.ErrRange, 0, api.ErrRange},
		{fault{"a", api.ErrArg}, 0, api.ErrArg},
		{fault{"a", api.ErrRange}, 0, api.ErrRange},
		{fault{"a", fault{"b", api.ErrArg}}, 0, api.ErrArg},
		{fault{"a", fault{"b", api.ErrRange}}, 0, api.ErrRange},
	} {
		if n, errno := answer(5, c.err); n != c.want || errno != c.errno {
			t.Errorf("answer(5, %v) = %d, %d, not %d, %d", c.err, n, errno, c.want, c.errno)
		}
	}
}
