package impl

const greatestNumber = 999999
const greatestInt = 999999999999
const maxJoined = 1048576

// FormatInt returns n in decimal.
func FormatInt(n int) string {
	if n >= 0 {
		return formatDigits(uint(n))
	}
	// The least int has no negation among the ints; wrapping around as unsigned gives its magnitude.
	return "-" + formatDigits(-uint(n))
}

func formatDigits(n uint) string {
	count := countDigits(n)
	digits := make([]byte, count)
	for i := range count {
		digits[count-1-i] = '0' + byte(n%10)
		n /= 10
	}
	return string(digits)
}

func countDigits(n uint) int {
	count := 1
	for n >= 10 {
		n /= 10
		count++
	}
	return count
}

// ParseNumber returns the number from 0 to 999999 that s denotes.
func ParseNumber(s string) (int, bool) {
	n, ok := parseDecimal(s, greatestNumber)
	if !ok || n < 0 {
		return 0, false
	}
	return n, true
}

// ParseInt returns the number from -999999999999 to 999999999999 that s denotes.
func ParseInt(s string) (int, bool) {
	return parseDecimal(s, greatestInt)
}

// parseDecimal reads the number of a magnitude of at most most whose FormatInt is s.
func parseDecimal(s string, most int) (int, bool) {
	negative := len(s) > 0 && s[0] == '-'
	digits := s
	if negative {
		digits = s[1:]
	}
	n, ok := parseDigits(digits, most)
	if negative {
		n = -n
	}
	// Writing the number again rules out leading zeros, "-0" and the empty string.
	if !ok || FormatInt(n) != s {
		return 0, false
	}
	return n, true
}

func parseDigits(s string, most int) (int, bool) {
	n := 0
	for i := range len(s) {
		if !isDigit(s[i]) {
			return 0, false
		}
		n = 10*n + int(s[i]-'0')
		// Stopping here keeps n from wrapping around in a long string.
		if n > most {
			return 0, false
		}
	}
	return n, true
}

func isDigit(b byte) bool {
	return b >= '0' && b <= '9'
}

// SplitByte returns the parts of s between the occurrences of the byte by.
func SplitByte(s string, by byte) []string {
	parts := []string{}
	start := 0
	// The index counts bytes: a range over the string would step over runes.
	for i := range len(s) {
		if s[i] == by {
			parts = append(parts, s[start:i])
			start = i + 1
		}
	}
	return append(parts, s[start:])
}

// Join concatenates the elements of list, with by between them, up to 1048576 bytes.
func Join(list []string, by string) string {
	size, ok := joinedSize(list, by)
	if !ok {
		return ""
	}
	joined := make([]byte, 0, size)
	for i, part := range list {
		if i > 0 {
			joined = append(joined, by...)
		}
		joined = append(joined, part...)
	}
	return string(joined)
}

func joinedSize(list []string, by string) (int, bool) {
	size := 0
	for i, part := range list {
		if i > 0 {
			size += len(by)
		}
		size += len(part)
		// Checking at each element keeps the sum from wrapping around.
		if size > maxJoined {
			return 0, false
		}
	}
	return size, true
}
