package loop

import (
	"errors"

	"flarepath/api"
	"flarepath/dict"
	"flarepath/port"
)

// values are what each source of each signal says.
type values = [api.Signals][api.Sources]int64

// trouble wraps an error of a layer beneath with who met it.
type trouble struct {
	who   string
	cause error
}

func (t trouble) Error() string { return t.who + ": " + t.cause.Error() }

func (t trouble) Unwrap() error { return t.cause }

// wrapped tells nil of OK: as a value of error an Errno of 0 would not be nil.
func wrapped(who string, errno api.Errno) error {
	if errno == api.OK {
		return nil
	}
	return trouble{who: who, cause: errno}
}

// number tells the number of an error, however deep that is wrapped.
func number(err error) api.Errno {
	var errno api.Errno
	errors.As(err, &errno)
	return errno
}

// put tells the word by which a source says a value.
func put(signal, source int, value int64) (uint32, error) {
	word, errno := port.Put(signal, source, value)
	return word, wrapped("source", errno)
}

// putNearest tells the word that says a value, or the one nearest to it that a word holds.
func putNearest(signal, source int, value int64) (uint32, error) {
	word, err := put(signal, source, value)
	if errors.Is(err, api.ErrRange) {
		// A source that has a word has a signal, and that a kind.
		kind, _ := dict.Of(signal)
		return put(signal, source, max(kind.Low, min(value, kind.High)))
	}
	return word, err
}

// said tells the words by which the sources say what they do.
func said(says values) ([api.Signals][api.Sources]uint32, error) {
	var words [api.Signals][api.Sources]uint32
	for signal, row := range says {
		for source, value := range row {
			word, err := put(signal, source, value)
			if err != nil {
				return words, err
			}
			words[signal][source] = word
		}
	}
	return words, nil
}
