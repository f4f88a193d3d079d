package pattern

// byteTest is a test that some bytes pass.
type byteTest func(c byte) bool

// within returns the test of the bytes of some ranges, each of which is given by its first and its last byte.
func within(ranges ...string) byteTest {
	return func(c byte) bool {
		for _, r := range ranges {
			if r[0] <= c && c <= r[1] {
				return true
			}
		}
		return false
	}
}

// only returns the test of one byte.
func only(x byte) byteTest {
	return func(c byte) bool { return c == x }
}

// not returns the test of the bytes that do not pass a test.
func not(test byteTest) byteTest {
	return func(c byte) bool { return !test(c) }
}

// pairTest returns the test of % and the byte x, or nil if x is a letter or digit that has no meaning there.
func pairTest(x byte) byteTest {
	switch {
	case within("az")(x):
		return classTest(x)
	case within("AZ")(x):
		if test := classTest(x - 'A' + 'a'); test != nil {
			return not(test)
		}
		return nil
	case within("09")(x):
		return nil
	}
	return only(x)
}

// classTest returns the test of the class of a lower-case letter, or nil if it has none.
func classTest(letter byte) byteTest {
	switch letter {
	case 'a':
		return within("az", "AZ")
	case 'd':
		return within("09")
	case 'l':
		return within("az")
	case 'u':
		return within("AZ")
	case 'w':
		return within("az", "AZ", "09")
	case 'x':
		return within("09", "af", "AF")
	case 's':
		return within("\x09\x0d", "  ")
	case 'p':
		return within("!/", ":@", "[`", "{~")
	case 'c':
		return within("\x00\x1f", "\x7f\x7f")
	}
	return nil
}

// byteSet is a set of bytes: with a bit for each, a long set is examined as quickly as a short one.
type byteSet [4]uint64

func (b *byteSet) has(c byte) bool { return b[c>>6]&(1<<(c&63)) != 0 }

// addRange adds the bytes from x to y.
func (b *byteSet) addRange(x, y byte) {
	for c := int(x); c <= int(y); c++ {
		b[c>>6] |= 1 << (c & 63)
	}
}

// addAll adds the bytes that pass a test.
func (b *byteSet) addAll(test byteTest) {
	for c := range 256 {
		if test(byte(c)) {
			b[c>>6] |= 1 << (c & 63)
		}
	}
}
