package parse

import "assayer/api"

// cursor is a place among words. From the first error on it stays where that is, as
// if there were no word: then no word is any more what one asks for, and all that
// reads ends by itself.
type cursor struct {
	words []api.Token // the last one is a TokEnd
	at    int
	e     api.Errno
}

// word returns the word at the cursor.
func (c *cursor) word() api.Token {
	if c.e != api.OK {
		return api.Token{}
	}
	return c.words[c.at]
}

// next returns the word at the cursor, which is not the TokEnd, and moves on behind it.
func (c *cursor) next() api.Token {
	w := c.word()
	if c.e == api.OK {
		c.at++
	}
	return w
}

// fail notes an error at the cursor, if there is none yet.
func (c *cursor) fail(e api.Errno) {
	if c.e == api.OK {
		c.e = e
	}
}

// is tells whether that name or sign is at the cursor.
func (c *cursor) is(text string) bool {
	w := c.word()
	return (w.Kind == api.TokName || w.Kind == api.TokSign) && w.Text == text
}

// take moves on behind that name or sign, if it is at the cursor.
func (c *cursor) take(text string) bool {
	if !c.is(text) {
		return false
	}
	c.next()
	return true
}

// need moves on behind that name or sign, which must be at the cursor.
func (c *cursor) need(text string) {
	if !c.take(text) {
		c.fail(api.ErrForm)
	}
}

func (c *cursor) atName() bool { return c.word().Kind == api.TokName }

func (c *cursor) atPlain() bool { return c.atName() && Plain(c.word().Text) }

// plain moves on behind the plain name that must be at the cursor.
func (c *cursor) plain() string {
	if !c.atPlain() {
		c.fail(api.ErrForm)
	}
	return c.next().Text
}

// qualified moves on behind the qualified name that must be at the cursor.
func (c *cursor) qualified() string {
	if !c.atName() || !isQualified(c.word().Text) {
		c.fail(api.ErrForm)
	}
	return c.next().Text
}

// elements reads as many elements as there are, up to most, each with the `,` or `;`
// behind it.
func elements[T any](c *cursor, atOne func() bool, most int, read func() T) (l []T) {
	for atOne() {
		l = add(c, l, most, read)
		if !c.take(",") {
			c.take(";")
		}
	}
	return l
}

// add appends to l the element that begins at the cursor, unless l has most already.
func add[T any](c *cursor, l []T, most int, read func() T) []T {
	if len(l) == most {
		c.fail(api.ErrLong)
		return l
	}
	return append(l, read())
}
