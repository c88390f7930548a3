package cause

// noWay is the delay where there is no way.
const noWay = -1

// longest is what delays above it count as.
const longest = 1 << 30

// sum returns the delay of two ways one behind the other.
func sum(a, b int) int {
	if a == noWay || b == noWay {
		return noWay
	}
	// Not a+b > longest: that could be beyond an int of 32 bits.
	if a > longest-b {
		return longest
	}
	return a + b
}

// product returns a delay of a part that runs at each nth sample alone.
func product(n, delay int) int {
	if delay == noWay {
		return noWay
	}
	if delay > longest/n {
		return longest
	}
	return n * delay
}

// least returns the lesser of the delays of two ways.
func least(a, b int) int {
	if a == noWay {
		return b
	}
	if b == noWay {
		return a
	}
	return min(a, b)
}
