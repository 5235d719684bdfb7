package script

import "strings"

const (
	// mostLines is how many lines a script has at most.
	mostLines = 1000
	// numbersEnd is the least number that is too great for a script.
	numbersEnd = 1 << 24
	// mostDigits is how many digits the greatest number below numbersEnd has: longer words are no numbers, and need not be gone through.
	mostDigits = 8
)

// order is a line that does something: it as it stands, its row, and its numbers.
type order struct {
	line    string
	row     row
	numbers []int64
}

// misfit is what a reader leaves by, from however deep it is: the number of the line that is none of the rows.
type misfit struct {
	line int
}

// reader takes a line apart, word by word.
type reader struct {
	line int
	rest string
	// more is whether a word is still there: an empty one, too, behind a last blank.
	more bool
}

// read tells the orders of a text, or the first line that is none.
func read(text string) (orders []order, line int, ok bool) {
	defer func() {
		switch why := recover().(type) {
		case nil:
		case misfit:
			orders, line, ok = nil, why.line, false
		default:
			// It is no misfit, so it is not for this reader to hide.
			panic(why)
		}
	}()
	return readLines(text), 0, true
}

// readLines tells the orders of a text. What stands behind the last byte 10 is a line only if it is not empty.
func readLines(text string) []order {
	var orders []order
	all := rows()
	for n := 0; text != ""; n++ {
		r := reader{line: n, more: true}
		if n >= mostLines {
			r.leave()
		}
		r.rest, text, _ = strings.Cut(text, "\n")
		if r.rest != "" && r.rest[0] != '#' {
			orders = append(orders, r.order(all))
		}
	}
	return orders
}

// leave gives the text up: nobody between here and read has to ask whether a line went well.
func (r *reader) leave() {
	panic(misfit{line: r.line})
}

// order tells what the line says: the word of a row, and as many numbers as that asks for.
func (r *reader) order(all map[string]row) order {
	o := order{line: r.rest}
	first, is := all[r.word()]
	if !is {
		r.leave()
	}
	o.row = first
	for _, kind := range first.numbers {
		o.numbers = append(o.numbers, r.number(kind == signed))
	}
	if r.more {
		r.leave()
	}
	return o
}

// word tells the next word of the line, an empty one if there is none: that is no row's, and no number.
func (r *reader) word() string {
	var word string
	word, r.rest, r.more = strings.Cut(r.rest, " ")
	return word
}

// number tells the next word's number, which may be below 0 only if that is allowed.
func (r *reader) number(may bool) int64 {
	digits, below := strings.CutPrefix(r.word(), "-")
	n := r.count(digits)
	if !below {
		return n
	}
	if !may || n == 0 {
		r.leave()
	}
	return -n
}

// count tells the number that digits stand for.
func (r *reader) count(digits string) int64 {
	if digits == "" || len(digits) > mostDigits || digits[0] == '0' && digits != "0" {
		r.leave()
	}
	n := int64(0)
	for _, digit := range []byte(digits) {
		if digit < '0' || digit > '9' {
			r.leave()
		}
		n = n*10 + int64(digit-'0')
	}
	if n >= numbersEnd {
		r.leave()
	}
	return n
}
