package shelf

// decText tells a number in digits, and a line feed: in 20 places, since 2^64 - 1 has as many digits.
const decText = `u8 buf[20];
void dec(u64 n) {
	i16 k = 0;
	while (n > 9u) {
		buf[k] = n % 10u + 48u;
		n = n / 10u;
		k = k + 1;
	}
	buf[k] = n + 48u;
	while (k >= 0) {
		put(buf[k]);
		k = k - 1;
	}
	put(10);
}
`

// numText takes a number in digits in; a byte that is none ends it, and is taken in, too.
const numText = `u64 num() {
	u64 n = 0u;
	i16 c = get();
	while (c >= 48 && c <= 57) {
		n = n * 10u + (u64)(c - 48);
		c = get();
	}
	return n;
}
`
