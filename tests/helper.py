"""What the tests share: nets to try, and slow answers straight from the document's words."""

import functools
import itertools
import sys
import unittest

from arrowfind.errors import ArrowError

# None of these rows goes by the alphabet, so that an answer sorted by it would show.
NAMES = ["wet", "sun", "rain", "a", "zzzzzzzz", "mud", "b", "hail"]


class Case(unittest.TestCase):
    def refused(self, error, function, *arguments):
        with self.assertRaises(ArrowError) as caught:
            function(*arguments)
        self.assertIs(type(caught.exception), error)
        self.assertIsInstance(caught.exception, ValueError)
        return caught.exception


def comes_round(names, arrows):
    return all(
        any(order.index(tail) > order.index(head) for tail, head in arrows)
        for order in itertools.permutations(names)
    )


def every_choice(names):
    """Each way to put at most one arrow between each two names, rings among them."""
    pairs = list(itertools.combinations(names, 2))
    for ways in itertools.product((0, 1, 2), repeat=len(pairs)):
        arrows = []
        for (one, other), way in zip(pairs, ways):
            if way == 1:
                arrows.append((one, other))
            if way == 2:
                arrows.append((other, one))
        yield arrows


def every_net(size):
    """Each net with the first names, as a tuple written here and not by the program."""
    names = tuple(NAMES[:size])
    for arrows in every_choice(names):
        if not comes_round(names, arrows):
            yield (names, by_places(names, arrows))


def by_places(names, rows):
    return tuple(sorted(rows, key=lambda row: [names.index(name) for name in row]))


class Dice:
    """Numbers that are the same in every run and under every Python."""

    def __init__(self, seed):
        self.state = seed

    def throw(self, sides):
        self.state = (self.state * 6364136223846793005 + 1442695040888963407) % 2**64
        return (self.state >> 33) % sides

    def shuffled(self, things):
        left = list(things)
        return [left.pop(self.throw(len(left))) for _ in things]


def thrown_net(seed, size, dense):
    """Names and arrows, in no order, of a net with that many names; dense in ten ties stand."""
    dice = Dice(seed)
    names = dice.shuffled(NAMES)[:size]
    turns = dice.shuffled(names)
    arrows = [pair for pair in itertools.combinations(turns, 2) if dice.throw(10) < dense]
    return names, dice.shuffled(arrows)


def thrown_nets(sizes=(5, 6, 7, 8), each=6):
    for size in sizes:
        for seed in range(each):
            names, arrows = thrown_net(seed * 97 + size, size, 2 + seed % 5)
            yield (tuple(names), by_places(names, arrows))


def some_nets():
    """Each net with up to four names, and some with up to eight."""
    for size in (1, 2, 3, 4):
        yield from every_net(size)
    yield from thrown_nets()


def slow_below(net, name):
    names, arrows = net
    found = {name}
    for _ in names:
        found |= {head for tail, head in arrows if tail in found}
    return [each for each in names if each in found]


def slow_above(net, name):
    return [each for each in net[0] if name in slow_below(net, each)]


def slow_tied(net, one, other):
    return (one, other) in net[1] or (other, one) in net[1]


def slow_roads(net, one, other):
    inner = [name for name in net[0] if name not in (one, other)]
    roads = []
    for length in range(len(inner) + 1):
        for middle in itertools.permutations(inner, length):
            road = [one, *middle, other]
            if all(slow_tied(net, *pair) for pair in zip(road, road[1:])):
                roads.append(road)
    return list(by_places(net[0], roads))


def slow_meetings(net, road):
    return [
        road[k]
        for k in range(1, len(road) - 1)
        if (road[k - 1], road[k]) in net[1] and (road[k + 1], road[k]) in net[1]
    ]


def slow_open(net, road, held):
    meetings = slow_meetings(net, road)
    for name in road[1:-1]:
        if name in meetings:
            if not set(slow_below(net, name)) & set(held):
                return False
        elif name in held:
            return False
    return True


def joined_above(net, one, other, held):
    """Whether some road must be open, told without roads: among the names above one, other
    and the held, elders of one heir married, is there a way round the held ones?"""
    names = set().union(*(slow_above(net, name) for name in [one, other, *held]))
    edges = {frozenset(arrow) for arrow in net[1] if set(arrow) <= names}
    for head in names:
        elders = [tail for tail, end in net[1] if end == head]
        edges |= {frozenset(pair) for pair in itertools.combinations(elders, 2)}
    found = {one}
    for _ in names:
        for edge in edges:
            if edge & found:
                found |= edge - set(held)
    return other in found


def lists_of(names):
    for length in range(len(names) + 1):
        for some in itertools.combinations(names, length):
            yield list(some)


def others_of(net, *names):
    return [name for name in net[0] if name not in names]


def slow_parted(net, one, other, held):
    return not any(slow_open(net, road, held) for road in slow_roads(net, one, other))


def slow_partings(net):
    """All that a net says: each two names with each list of others that parts them."""
    told = set()
    for one, other in itertools.combinations(net[0], 2):
        roads = slow_roads(net, one, other)
        for held in lists_of(others_of(net, one, other)):
            if not any(slow_open(net, road, held) for road in roads):
                told.add((one, other, tuple(held)))
    return frozenset(told)


def slow_reach(net, one, held):
    def goes_down(name):
        came = name == one or (name, True) in found or (name, False) in found
        return came and name not in held

    def goes_up(name):
        below = set(slow_below(net, name)) & set(held)
        return name == one or (name, True) in found and below or (name, False) in found and name not in held

    found = set()
    for _ in range(2 * len(net[0])):
        found |= {(head, True) for tail, head in net[1] if goes_down(tail)}
        found |= {(tail, False) for tail, head in net[1] if goes_up(head)}
    return [(name, truth) for name in net[0] for truth in (False, True) if (name, truth) in found]


def slow_ties(net):
    return [pair for pair in itertools.combinations(net[0], 2) if slow_tied(net, *pair)]


def slow_corners(net):
    return [
        (one, middle, other)
        for one, middle, other in itertools.permutations(net[0], 3)
        if net[0].index(one) < net[0].index(other) and not slow_tied(net, one, other)
        and (one, middle) in net[1] and (other, middle) in net[1]
    ]


def slow_elders(net, name):
    return {tail for tail, head in net[1] if head == name}


def slow_turnable(net):
    return [
        (tail, head)
        for tail, head in net[1]
        if slow_elders(net, head) == slow_elders(net, tail) | {tail}
    ]


def slow_turned(net, arrow):
    arrows = [pair for pair in net[1] if pair != arrow] + [arrow[::-1]]
    return (net[0], by_places(net[0], arrows))


@functools.cache
def nets_alike(size):
    """All nets of that many names, in groups of those that part the same names by the same lists."""
    groups = {}
    for net in every_net(size):
        groups.setdefault(slow_partings(net), []).append(net)
    return list(groups.values())


def slow_nets_like(net):
    """All nets with the ties and corners of this one: every order of the names turns the ties in
    a way that leaves no ring, and every such way comes of some order."""
    ways = {by_turns(net, turns) for turns in itertools.permutations(net[0])}
    corners = slow_corners(net)
    return [way for way in sorted(ways) if slow_corners(way) == corners]


def slow_picture(nets):
    """The picture of nets that are all that say the same."""
    names, arrows = nets[0]
    always = [arrow for arrow in arrows if all(arrow in net[1] for net in nets)]
    return (names, by_places(names, always), slow_loose(nets))


def slow_loose(nets):
    return tuple(
        pair
        for pair in itertools.combinations(nets[0][0], 2)
        if any(pair in net[1] for net in nets) and any(pair[::-1] in net[1] for net in nets)
    )


def slow_islands(names, ties):
    islands = []
    for name in names:
        island = {name}
        for _ in names:
            island |= {end for tie in ties for end in tie if set(tie) & island}
        row = [each for each in names if each in island]
        if len(row) > 1 and row not in islands:
            islands.append(row)
    return islands


def slow_source(net, island):
    [source] = [name for name in island if not slow_elders(net, name) & set(island)]
    return source


def slow_goes_ahead(nets, islands, first, second):
    """Whether the first goes ahead of the second, both of them among nets, a picture's nets."""
    names = first[0]
    for island in islands:
        within = [[pair for pair in net[1] if set(pair) <= set(island)] for net in (first, second)]
        if within[0] != within[1]:
            source, other = slow_source(first, island), slow_source(second, island)
            if source != other:
                return names.index(source) < names.index(other)
            some = [net for net in nets if slow_source(net, island) == source]
            ties = [tie for tie in slow_loose(some) if set(tie) <= set(island)]
            return slow_goes_ahead(nets, slow_islands(names, ties), first, second)
    return False


def by_numbers(nets):
    """The nets of a picture in their order: each at the place that as many go ahead of it."""
    islands = slow_islands(nets[0][0], slow_loose(nets))
    rows = [None] * len(nets)
    for net in nets:
        ahead = [other for other in nets if slow_goes_ahead(nets, islands, other, net)]
        rows[len(ahead)] = net
    return rows


# Nets of five to seven names, as places of tails and heads, for what few names can't show.
SHAPES = {
    "a row": (5, "01 12 23 34"),
    "a star": (5, "20 21 23 24"),
    "two islands within one": (5, "20 21 01 23 24 34"),
    "islands within islands": (6, "01 02 12 13 23 24 34 35 45"),
    "a triangle beside a triangle": (6, "03 35 05 12 24 14"),
    "three islands": (6, "50 14 23"),
    "islands with arrows between them": (6, "01 02 03 42 43 23 45"),
    "an island above a corner": (5, "01 02 12 42"),
    "a fan": (6, "30 31 32 34 35 01 12 24 45"),
    "all tied above a corner": (6, "14 15 13 45 43 53 30 20"),
    "five all tied": (5, "31 30 32 34 10 12 14 02 04 24"),
    "arrows alone": (7, "01 21 13 34 52 62"),
}


def shaped_net(shape):
    size, pairs = SHAPES[shape]
    names = tuple(NAMES[:size])
    return (names, by_places(names, [(names[int(tail)], names[int(head)]) for tail, head in pairs.split()]))


def shaped_nets():
    return [shaped_net(shape) for shape in SHAPES]


def rows_that_fail(ties, corners, rows):
    """Those of the rows that no rule bears, walked from the first on by the rows ahead alone."""
    tied = set(ties) | {tie[::-1] for tie in ties}
    bent = set(corners) | {corner[::-1] for corner in corners}
    told, wrong = set(), []
    for row in rows:
        tail, head, rule, others = row
        if (tail, head) not in tied or not rule_bears(tail, head, rule, others, tied, bent, told):
            wrong.append(row)
        told.add((tail, head))
    return wrong


def rule_bears(tail, head, rule, others, tied, bent, told):
    if type(others) is not tuple or len(others) != (2 if rule == "both" else 1):
        return False
    if len({tail, head, *others}) != 2 + len(others):
        return False
    third, fourth = others[0], others[-1]
    if rule == "corner":
        return (tail, head, third) in bent
    if rule == "on":
        return (third, tail) in told and (third, head) not in tied and (third, tail, head) not in bent
    if rule == "over":
        return (tail, third) in told and (third, head) in told
    if rule == "both":
        ahead = (third, head) in told and (fourth, head) in told
        near = (third, tail) in tied and (fourth, tail) in tied
        return ahead and near and (third, fourth) not in tied and (third, tail, fourth) not in bent
    return False


def all_tied(names):
    """A net with every tie there can be, each arrow from an earlier of these names to a later."""
    return (tuple(names), tuple(itertools.combinations(names, 2)))


def by_turns(net, turns):
    """The same ties, each with its arrow from the earlier in turns to the later."""
    pairs = [tuple(sorted(arrow, key=turns.index)) for arrow in net[1]]
    return (net[0], by_places(net[0], pairs))


def turned_about(net, dice, times):
    """A net that says the same: some arrow that can be turned is, again and again."""
    for _ in range(times):
        can = slow_turnable(net)
        if can:
            net = slow_turned(net, can[dice.throw(len(can))])
    return net


def steps_of(function, *arguments):
    """How many rows of Python an answer takes: the same number on a slow machine and a fast one."""
    steps = 0

    def count(frame, event, argument):
        nonlocal steps
        steps += 1
        return count

    kept = sys.gettrace()
    sys.settrace(count)
    try:
        function(*arguments)
    finally:
        sys.settrace(kept)
    return steps
