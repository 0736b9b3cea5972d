package der

import "pendulum/api"

// long is added to how many bytes a length has, where one byte alone does not tell it; by itself it is no length's.
const long = 128

// length is how many bytes there are, at most mostBytes, as it stands ahead of them: in as few bytes as can be.
func length(n int) string {
	switch {
	case n < long:
		return string([]byte{byte(n)})
	case n < 256:
		return string([]byte{long + 1, byte(n)})
	}
	return string([]byte{long + 2, byte(n >> 8), byte(n)})
}

// readLength reads how many bytes there are; and what stands behind. Each fault is told when it is read, ahead of what is missing further on.
func readLength(s string) (int, string, api.Errno) {
	if s == "" {
		return 0, "", api.ErrShort
	}
	first := int(s[0])
	if first < long {
		return first, s[1:], api.OK
	}
	more := first - long
	switch {
	case more < 1 || more > 2:
		return 0, "", api.ErrForm
	case len(s) <= more:
		return 0, "", api.ErrShort
	}
	n := 0
	for i := range more {
		n = n<<8 | int(s[1+i])
	}
	if len(length(n)) <= more { // two ways to tell one length would be two texts of one tag
		return 0, "", api.ErrForm
	}
	return n, s[1+more:], api.OK
}
