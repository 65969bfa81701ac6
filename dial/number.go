package dial

// within reports whether a number is from low to high.
func within(n, low, high int) bool { return low <= n && n <= high }

// floor divides a number by one above 0, rounded down also below 0, where Go's own division rounds up.
func floor(n, by int) int {
	q := n / by
	if n%by < 0 {
		q--
	}
	return q
}

// sum adds up numbers.
func sum[T ~int](numbers ...T) T {
	var all T
	for _, n := range numbers {
		all += n
	}
	return all
}

// increasing reports whether numbers are strictly increasing, all of them above a number, and each is one that may be there.
func increasing(above int, numbers []int, mayBe func(int) bool) bool {
	for _, n := range numbers {
		if n <= above || !mayBe(n) {
			return false
		}
		above = n
	}
	return true
}
