"""Nets found: a picture drawn from answers with few asks, and answers judged by asking all."""

from arrowfind.answers import NetAnswers
from arrowfind.errors import NoNet, Ring
from arrowfind.nets import refuse_ring
from arrowfind.pictures import both_ways, is_straight, net_finished, picture_by, reasons_by, ties_left
from arrowfind.sameness import pairs_of


def drawn_from(answers):
    asked = {}
    partings = partings_sought(answers, asked)
    ties = ties_by(partings)
    picture = picture_by(answers.names, ties, corners_by(bends_of(answers.names, ties), partings))
    return (picture, [ask + (asked[ask],) for ask in asked])


# Neither clash nor ring nor loop: then a net has these ties and corners. For an arrow to one name
# of an island goes to all of them, as the rules are followed to their end; so what is tied within
# an island is so by its ties alone, which come round in no loop; the islands can be finished each
# as it likes, without new corners; and a ring by way of islands would be one of arrows too.
def judged(answers):
    names = answers.names
    partings = partings_by(answers)
    ties = ties_by(partings)
    bends = bends_of(names, ties)
    refuse_middles(bends, partings)
    corners = corners_by(bends, partings)
    reasons = reasons_by(names, ties, corners)
    refuse_clash(reasons)
    refuse_arrows_round(names, reasons)
    refuse_loop(names, ties, corners)
    arrows = [row[:2] for row in reasons]
    refuse_answers(net_finished(names, arrows, ties_left(ties, arrows)), partings)
    return picture_by(names, ties, corners)


# For each two names the lists that part them, here at most one. Two names that a net doesn't tie
# are parted by the elders of one of them, which are tied to it; so it is enough to ask for lists
# of names that are still tied to one of the two, the shorter lists ahead. Behind those as long as
# the most ties of a name no false tie is left, and so no longer list is asked for.
def partings_sought(answers, asked):
    pairs = pairs_of(answers.names)
    partings = dict([(pair, []) for pair in pairs])
    for size in range(len(answers.names) - 1):
        for pair in pairs:
            if not partings[pair]:
                lists = lists_near(answers.names, ties_by(partings), pair, size)
                partings[pair] = first_parting(answers, pair, lists, asked)
    return partings


def lists_near(names, ties, pair, size):
    tied = both_ways(ties)
    one, other = pair
    near_one = [name for name in names if (one, name) in tied and name != other]
    near_other = [name for name in names if (other, name) in tied and name != one]
    return lists_sized(near_one, size) + lists_sized(near_other, size)


# What was asked ahead didn't part the two, else they weren't asked for again.
def first_parting(answers, pair, lists, asked):
    one, other = pair
    for held in lists:
        ask = (one, other, held)
        if ask not in asked:
            asked[ask] = answers.parted(one, other, list(held))
            if asked[ask]:
                return [held]
    return []


def partings_by(answers):
    partings = {}
    for one, other in pairs_of(answers.names):
        others = [name for name in answers.names if name not in (one, other)]
        lists = []
        for size in range(len(others) + 1):
            lists.extend(lists_sized(others, size))
        partings[(one, other)] = [held for held in lists if answers.parted(one, other, list(held))]
    return partings


def lists_sized(names, size):
    if size == 0:
        return [()]
    lists = []
    for place, name in enumerate(names):
        lists.extend([(name,) + behind for behind in lists_sized(names[place + 1:], size - 1)])
    return lists


def ties_by(partings):
    return [pair for pair in partings if not partings[pair]]


# All that could be corners: two names that aren't tied, with one in the middle to which both are.
def bends_of(names, ties):
    tied = both_ways(ties)
    bends = []
    for one, other in pairs_of(names):
        if (one, other) not in tied:
            middles = [name for name in names if (one, name) in tied and (other, name) in tied]
            bends.extend([(one, middle, other) for middle in middles])
    return bends


def corners_by(bends, partings):
    corners = []
    for one, middle, other in bends:
        if not any([middle in held for held in partings[(one, other)]]):
            corners.append((one, middle, other))
    return corners


def refuse_middles(bends, partings):
    for one, middle, other in bends:
        lists = partings[(one, other)]
        without = [held for held in lists if middle not in held]
        within = [held for held in lists if middle in held]
        if without and within:
            raise NoNet(("middle", one, middle, other, without[0], within[0]))


def refuse_clash(reasons):
    told = [row[:2] for row in reasons]
    for tail, head in told:
        if (head, tail) in told:
            raise NoNet(("clash", reasons, tail, head))


def refuse_arrows_round(names, reasons):
    try:
        refuse_ring((names, [row[:2] for row in reasons]))
    except Ring as e:
        raise NoNet(("ring", reasons, e.ring)) from None


def refuse_loop(names, ties, corners):
    tied = both_ways(ties)
    bent = both_ways(corners)
    for one, other in ties:
        loops = loops_begun([one, other], names, tied, bent)
        if loops:
            raise NoNet(("loop", loops[0]))


# A walk that hasn't come round yet has ties from each name to the next one alone.
def loops_begun(walk, names, tied, bent):
    loops = []
    for name in names:
        if goes_on(walk, name, tied, bent):
            if (name, walk[0]) not in tied:
                loops.extend(loops_begun(walk + [name], names, tied, bent))
            elif closes_loop(walk, name, tied, bent):
                loops.append(walk + [name])
    return loops


def goes_on(walk, name, tied, bent):
    if name in walk or (walk[-1], name) not in tied:
        return False
    if any([(inner, name) in tied for inner in walk[1:-1]]):
        return False
    return is_straight(walk[-2], walk[-1], name, tied, bent)


def closes_loop(walk, name, tied, bent):
    ends_straight = is_straight(walk[-1], name, walk[0], tied, bent)
    return ends_straight and is_straight(name, walk[0], walk[1], tied, bent)


def refuse_answers(net, partings):
    said = partings_by(NetAnswers(net))
    for one, other in partings:
        in_answers, in_net = partings[(one, other)], said[(one, other)]
        unlike = lists_but(in_answers, in_net) + lists_but(in_net, in_answers)
        if unlike:
            raise NoNet(("answer", net, one, other, unlike[0]))


def lists_but(lists, others):
    return [held for held in lists if held not in others]
